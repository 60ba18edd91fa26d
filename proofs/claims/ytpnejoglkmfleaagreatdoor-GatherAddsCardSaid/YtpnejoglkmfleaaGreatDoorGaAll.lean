/-
  gather's All: all of a gatherer's attestations in order.
-/
import Derived.Test.YtpnejoglkmfleaaGreatDoorGaColl
namespace Go.Proofs.YtpnejoglkmfleaaGreatDoor
set_option maxRecDepth 20000
open Go.RowKit
set_option maxHeartbeats 1600000 in
theorem gaSorted_any (Bm m c : Nat) (P : List (AtM × Nat)) (L : List AtM) (hp : (P.map (·.1)).Perm L) (hs : SortG L) (ho : ∀ a ∈ L, a.Ok) (hl : L.length ≤ 1000) (hnd : (P.map (·.2)).Nodup) (hlt : ∀ p ∈ P, p.2 < c) (w : World)
    (hBm : Bm < w.heap.size) (hm : w.cell? ⟨Bm, 0, none⟩ = some (.map (some m))) (hq : w.heap[m]? = some (mapG P c)) :
    Calls Tryz.prog 29 #[.func (.func valsF) #[] #[.pointer (some ⟨Bm, 0, none⟩)], .func (.func 31) #[] #[]] w fun e w' => ∃ v, e = .returned v ∧ OwnE atl 101 36 w.heap.size w' v L ∧ Below w.heap.size w w' := by
  have HC := hid (gaCollect_any Bm m c P (fun p h => ho _ (mem_perm hp h)) hnd hlt (by have := hp.length_eq; rw [List.length_map] at this; omega) w hBm hm hq)
  have HP := hid hp
  have HS : Hid (∀ v M w', M.Perm L → OwnE atl 101 36 w.heap.size w' v M → Calls Tryz.prog 43 #[v, .func (.func 31) #[] #[]] w' fun e w'' => e = .returned (.tuple #[]) ∧ OwnE atl 101 36 w.heap.size w'' v L ∧ w'.grownBy w'' v.ownBlock) := hid (fun v M w' h1 h2 => gaSort_any h2 hs h1 ho hl)
  clear hp hs ho hnd hlt hm hq hl
  go_enter Tryz.func29, Tryz.ntmps29
  go_wp2_with fail
  refine HC.out.mono ?_
  rintro e w1 ⟨v, M, rfl, hpm, how, hb⟩
  have HB := hid hb
  have HO := hid how
  have HX := hid (HS.out v M w1 (hpm.trans HP.out) how)
  clear hpm how hb
  go_wp2_with fail
  refine HX.out.mono ?_
  rintro e w2 ⟨rfl, ho2, hg2⟩
  have HE := hid (And.intro ho2 (HB.out.grown hg2 HB.out.size (fun k hk => (World.ownsRow.lt HO.out k hk).1)))
  clear ho2 hg2
  go_wp2_with fail
  go_ret
  exact ⟨v, rfl, HE.out.1, HE.out.2⟩
end Go.Proofs.YtpnejoglkmfleaaGreatDoor
