/-
  keys.Check tells whether a tag is a part's.
-/
import Derived.Test.YtakigopjbbhjkaaDoorTag
import Derived.Test.YtakigopjbbhjkaaDoorMacSame
import Derived.Deep.RegionHeld3
import Derived.Deep.QuietTactic
import Derived.BigQuiet
namespace Go.Proofs.YtakigopjbbhjkaaDoor
open Go.RowKit

/-- Is a hash a part's tag? -/
def checkB (i : Int) (d : UInt8) (f : Nat → UInt8) (text : List UInt8) : Bool := nodeB i && sameB f (tagF i d text)

attribute [local go_sem ↓] exec_load_hide

set_option maxHeartbeats 3200000 in
theorem check_any (i : Int) (d : UInt8) (f : Nat → UInt8) (ls : List (List UInt8)) (vs : Nat → Value) (gp n c : Nat) (w : World) (hn : ls.length = n) (hg : gp < w.heap.size)
    (hc : ∀ j, j < n → w.cell? ⟨gp, j, none⟩ = some (vs j)) (hvs : ∀ j (h : j < ls.length), Byt w (vs j) ls[j]) (hls : ls.flatten.length ≤ 1000000) (hn2 : n ≤ 800) (hK : Kst 1 w) :
    Calls Tryd.prog 10 #[.int .i64 i, .int .u8 (d.toNat : Int), .agg (fcells 32 fun j => bcell (f j)), .slice (some ⟨gp, 0, none⟩) n c] w fun e w' => e = .returned (.bool (checkB i d f ls.flatten)) ∧ Below w.heap.size w w' := by
  have hb0 : Below w.heap.size w (w.alloc (.cells (fcells 32 fun j => bcell (f j)) 23)) := (Below.refl _ _).alloc (Nat.le_refl _) _
  have hA0 : Blk (w.alloc (.cells (fcells 32 fun j => bcell (f j)) 23)) w.heap.size 32 (fun j => bcell (f j)) 23 := Blk.new w _ _ _
  have hb1 := hb0.drew
  have CT := tag_any i d ls vs gp n c (w.alloc (.cells (fcells 32 fun j => bcell (f j)) 23)).drew hn (Nat.lt_of_lt_of_le hg hb1.size) (fun j hj => (hb1.cell (p := ⟨gp, j, none⟩) hg).trans (hc j hj)) (fun j hj => (hvs j hj).below hb1) hls hn2 (hK.below hb1)
  have HA0 := hid hA0
  have HG := hid hg
  clear hA0 hn hc hvs hls hg
  cases hnode : nodeB i
  · have C := fun w => node_any i w
    rw [hnode] at C
    have HC : Hid (∀ w, Calls Tryd.prog 11 #[.int .i64 i] w fun e w' => e = .returned (.bool false) ∧ w' = w) := hid fun w => (C w).mono fun _ _ ⟨h1, h2⟩ => ⟨h1, h2.symm⟩
    have HR : Hid (checkB i d f ls.flatten = false) := hid (by unfold checkB; rw [hnode]; rfl)
    clear C CT
    rw [HR.out]
    go_enter Tryd.func10, Tryd.ntmps10
    go_wp2_with fail
    generalize w.alloc (.cells (fcells 32 fun j => bcell (f j)) 23) = w0 at *
    go_quiet ((go_at_call 11; exact Calls.quiet_of_same (HC.out _)))
    go_wp2_with fail
    go_ret
    exact ⟨rfl, below_drewN hb0 _⟩
  · have C := fun w => node_any i w
    rw [hnode] at C
    have HC := hid C
    have HR : Hid (checkB i d f ls.flatten = sameB f (tagF i d ls.flatten)) := hid (by unfold checkB; rw [hnode]; rfl)
    clear C
    obtain ⟨τ, HT⟩ : ∃ t : Nat → UInt8, Hid (tagF i d ls.flatten = t) := ⟨_, hid rfl⟩
    rw [HT.out] at CT HR
    have CS := macSame_any f τ
    obtain ⟨DA, HDA⟩ : ∃ D : Array Value, Hid (fcells 32 (fun j => bcell (f j)) = D) := ⟨_, hid rfl⟩
    obtain ⟨DT, HDT⟩ : ∃ D : Array Value, Hid (fcells 32 (fun j => bcell (τ j)) = D) := ⟨_, hid rfl⟩
    obtain ⟨sb, HSB⟩ : ∃ b : Bool, Hid (sameB f τ = b) := ⟨_, hid rfl⟩
    rw [HSB.out] at HR CS
    rw [HDA.out, HDT.out] at CS
    rw [HDT.out] at CT
    rw [HR.out]
    have HCT := hid CT
    have HCS := hid CS
    clear CT CS
    obtain ⟨x, HX⟩ : ∃ x : Int, Hid ((d.toNat : Int) = x) := ⟨_, hid rfl⟩
    rw [HX.out] at HCT ⊢
    go_enter Tryd.func10, Tryd.ntmps10
    go_wp2_with fail
    generalize w.alloc (.cells (fcells 32 fun j => bcell (f j)) 23) = w0 at *
    obtain ⟨T, HTT⟩ : ∃ T : TypeId, Hid (T = 23) := ⟨_, hid rfl⟩
    have hL := tyHide_load HTT.out
    simp only [hL]
    clear hL
    obtain ⟨G, HGG⟩ : ∃ G : Nat, Hid (w.heap.size = G) := ⟨_, hid rfl⟩
    have hA0 := HA0.out
    rw [HGG.out] at hA0 ⊢
    have hlA : ∀ w' : World, Blk w' G 32 (fun j => bcell (f j)) 23 → loadA (tyHide T 23) (.pointer (some ⟨G, 0, none⟩)) w' = .ok (.value (.agg DA)) w' := fun w' h => by
      rw [← HDA.out]
      exact loadA_hide (o := 0) HTT.out arrH h (by omega) (fun j _ => by rw [Nat.zero_add])
    go_region_held3 (fun w' => Blk w' G 32 (fun j => bcell (f j)) 23)
      (first | (refine hA0) | (refine (Blk.keep (w := w0.drew) hA0 hb2).keep hb3) | (refine Blk.keep (w := w0.drew) hA0 hb2) | fail)
      (first
        | (go_at_call 19; (with_reducible refine (HCS.out _).mono ?_); rintro e w3 ⟨rfl, hb3⟩; have hB3 : Below w.heap.size w w3 := hB2.trans (hb3.mono hB2.size))
        | (go_at_call 6; (with_reducible refine HCT.out.mono ?_); rintro e w2 ⟨rfl, hb2⟩; have hB2 : Below w.heap.size w w2 := hb1.trans (hb2.mono hb1.size))
        | (go_at_call 11; refine (HC.out _).mono ?_; rintro e w1 ⟨rfl, rfl⟩)
        | fail)
    all_goals
      go_wp2_with fail
      go_ret
      exact ⟨rfl, hB3⟩
end Go.Proofs.YtakigopjbbhjkaaDoor
