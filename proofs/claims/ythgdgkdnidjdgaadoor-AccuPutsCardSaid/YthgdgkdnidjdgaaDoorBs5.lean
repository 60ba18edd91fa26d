/-
  RefTurn RefOf RefPart KeyBlock RefKey RefMac Masked Pair: what each of them says stands at its head.
-/
import Derived.Test.YthgdgkdnidjdgaaDoorBs4
import Derived.ArgAppend
import Derived.Laws.IdiomCopy
import Derived.Deep.QuietTactic
import Derived.BigQuiet
import Derived.StillTailTactics
import Derived.Deep.RegionHeld3
import Derived.Deep.DeepCutAuto
/-
  The document's answer for a state behind a block: tithingref02.Turn.
-/
namespace Go.Proofs.YthgdgkdnidjdgaaDoor
set_option maxRecDepth 20000
open Go.RowKit

theorem four_add (a b c d : UInt8) : IntKind.u32.wrap (IntKind.u32.wrap (IntKind.u32.wrap (IntKind.u32.wrap (IntKind.u32.wrap (a.toNat : Int) * 16777216) + IntKind.u32.wrap (IntKind.u32.wrap (b.toNat : Int) * 65536)) + IntKind.u32.wrap (IntKind.u32.wrap (c.toNat : Int) * 256)) + IntKind.u32.wrap (d.toNat : Int)) = wv (four a b c d) := by
  have ha := a.toNat_lt
  have hb := b.toNat_lt
  have hc := c.toNat_lt
  have hd := d.toNat_lt
  unfold four
  rw [wv_of _ (by omega)]
  simp only [IntKind.wrap_u32']
  omega

/-- What the first store of a round lays. -/
def halfW (b : Nat → UInt8) (i : Nat) : UInt32 := sm1 (wd b (i - 2))

set_option maxHeartbeats 12800000 in
set_option maxRecDepth 100000 in
theorem refTurn_any (s : Nat → UInt32) (b : Nat → UInt8) (w : World) (hK : Kst 1 w) :
    Calls Tryd.prog 83 #[.agg (fcells 8 fun j => wc (s j)), .agg (fcells 64 fun j => bcell (b j))] w fun e w' => e = .returned (.agg (fcells 8 fun j => wc (turnS s b j))) ∧ Below w.heap.size w w' := by
  have h1 := hK.1
  go_enter Tryd.func83, Tryd.ntmps83
  go_wp2_with (first
    | (refine wpList_alloc_arr arrS rfl rfl ?_)
    | (refine wpList_zero_arr arrW rfl rfl ?_)
    | (refine wpList_alloc_arr arrW rfl rfl ?_)
    | (refine wpList_store_arr arrW rfl _ _ rfl rfl rfl (Blk.new _ 64 (fun _ => wc 0) 113) (fun _ _ => rfl) ?_; intro w1 hg1 hW1 hs1))
  have hA : Blk (((w.alloc (.cells (fcells 8 fun j => wc (s j)) 103)).alloc (.cells (fcells 64 fun j => bcell (b j)) 96)).alloc (.cells (fcells 8 fun _ => wc 0) 103)) w.heap.size 8 (fun j => wc (s j)) 103 := ((Blk.new w _ _ _).alloc _).alloc _
  have hB : Blk (((w.alloc (.cells (fcells 8 fun j => wc (s j)) 103)).alloc (.cells (fcells 64 fun j => bcell (b j)) 96)).alloc (.cells (fcells 8 fun _ => wc 0) 103)) (w.heap.size + 1) 64 (fun j => bcell (b j)) 96 := Blk.alloc (heap_alloc2_new w _ _) _
  have hC : Blk (((w.alloc (.cells (fcells 8 fun j => wc (s j)) 103)).alloc (.cells (fcells 64 fun j => bcell (b j)) 96)).alloc (.cells (fcells 8 fun _ => wc 0) 103)) (w.heap.size + 1 + 1) 8 (fun _ => wc 0) 103 := by
    have := Blk.new ((w.alloc (.cells (fcells 8 fun j => wc (s j)) 103)).alloc (.cells (fcells 64 fun j => bcell (b j)) 96)) 8 (fun _ => wc 0) 103
    simpa using this
  have hbw : Below w.heap.size w (((w.alloc (.cells (fcells 8 fun j => wc (s j)) 103)).alloc (.cells (fcells 64 fun j => bcell (b j)) 96)).alloc (.cells (fcells 8 fun _ => wc 0) 103)) := (((Below.refl _ _).alloc (Nat.le_refl _) _).alloc (by simp) _).alloc (by simp; omega) _
  have hsz : (((w.alloc (.cells (fcells 8 fun j => wc (s j)) 103)).alloc (.cells (fcells 64 fun j => bcell (b j)) 96)).alloc (.cells (fcells 8 fun _ => wc 0) 103)).heap.size = w.heap.size + 3 := by simp
  have hp : (((w.alloc (.cells (fcells 8 fun j => wc (s j)) 103)).alloc (.cells (fcells 64 fun j => bcell (b j)) 96)).alloc (.cells (fcells 8 fun _ => wc 0) 103)).heap.size = w.heap.size + 1 + 1 + 1 := by simp
  rw [hp] at hg1 hW1
  clear hp hs1
  generalize (((w.alloc (.cells (fcells 8 fun j => wc (s j)) 103)).alloc (.cells (fcells 64 fun j => bcell (b j)) 96)).alloc (.cells (fcells 8 fun _ => wc 0) 103)) = w0 at *
  have Hsz := hid hsz
  clear hsz
  obtain ⟨G, HG⟩ : ∃ G : Nat, Hid (w.heap.size + 1 + 1 + 1 = G) := ⟨_, hid rfl⟩
  have hG0 : w0.heap.size = G := by have := HG.out; have := Hsz.out; omega
  have HG0 := hid hG0
  clear hG0
  have hGw : w.heap.size + 2 < G := by have := HG.out; omega
  rw [HG.out] at hg1 hW1 ⊢
  have hA1 : Blk w1 w.heap.size 8 (fun j => wc (s j)) 103 := (hA.alloc _).grown hg1 (fun e => by have := Option.some.inj e; omega)
  have hB1 : Blk w1 (w.heap.size + 1) 64 (fun j => bcell (b j)) 96 := (hB.alloc _).grown hg1 (fun e => by have := Option.some.inj e; omega)
  have hC1 : Blk w1 (w.heap.size + 1 + 1) 8 (fun _ => wc 0) 103 := (hC.alloc _).grown hg1 (fun e => by have := Option.some.inj e; omega)
  have hb1 : Below G w0 w1 := ((Below.refl _ _).alloc (by have := HG0.out; omega) _).grown hg1 (by have := HG0.out; simp; omega) (fun k hk => by injection hk; omega)
  have hbw1 : Below w.heap.size w w1 := hbw.trans (hb1.mono (by omega))
  clear hA hB hC hbw Hsz hg1 hb1
  have hK1 := hK.below hbw1
  have hltG := hW1.lt
  try go_frame
  go_wp2_with fail
  go_loopw [6] (fun si wr => ∃ i : Nat, i ≤ 64 ∧ si = .int .i64 i ∧ Below G w1 wr ∧ Blk wr G 64 (part (wd b) i) 113) (fun si _ => 64 - (intOf si).toNat)
  case atStart => exact ⟨0, by omega, rfl, Below.refl _ _, hW1.congr fun i _ => by simp [part]⟩
  case round =>
    clear hW1
    obtain ⟨i, hi, rfl, hb, hW⟩ := hrel
    have hltW := hW.lt
    have hlt1 : w.heap.size + 1 < wr.heap.size := by omega
    by_cases hlt : i < 64
    · have hi64 : (i : Int) < 64 := by omega
      have ki := hW.cell (i := i) (by omega)
      have fi := hW.free i
      by_cases h16 : i < 16
      · have hi16 : (i : Int) < 16 := by omega
        as_aux_lemma =>
          have hBr : Blk wr (w.heap.size + 1) 64 (fun j => bcell (b j)) 96 := hB1.below hb (by omega)
          obtain ⟨J, HJ⟩ : ∃ J : Nat, Hid (4 * i = J) := ⟨_, hid rfl⟩
          have hJ : J + 3 < 64 := by have := HJ.out; omega
          have c0 := hBr.cell (i := J) (by omega)
          have c1 := hBr.cell (i := J + 1) (by omega)
          have c2 := hBr.cell (i := J + 2) (by omega)
          have c3 := hBr.cell (i := J + 3) (by omega)
          have q0 : IntKind.i64.wrap (4 * (i : Int)) = (J : Int) := by rw [IntWalk.i64_in _ (by omega)]; have := HJ.out; omega
          have q1 : IntKind.i64.wrap ((J : Int) + 1) = (J : Int) + 1 := IntWalk.i64_in _ (by omega)
          have q2 : IntKind.i64.wrap ((J : Int) + 2) = (J : Int) + 2 := IntWalk.i64_in _ (by omega)
          have q3 : IntKind.i64.wrap ((J : Int) + 3) = (J : Int) + 3 := IntWalk.i64_in _ (by omega)
          have r1 : ((J : Int) + 1).toNat = J + 1 := by omega
          have r2 : ((J : Int) + 2).toNat = J + 2 := by omega
          have r3 : ((J : Int) + 3).toNat = J + 3 := by omega
          have s0 : (J : Int) < 64 := by omega
          have s1 : (J : Int) + 1 < 64 := by omega
          have s2 : (J : Int) + 2 < 64 := by omega
          have s3 : (J : Int) + 3 < 64 := by omega
          have u1 : 0 ≤ (J : Int) + 1 := by omega
          have u2 : 0 ≤ (J : Int) + 2 := by omega
          have u3 : 0 ≤ (J : Int) + 3 := by omega
          unfold bcell at c0 c1 c2 c3
          go_wp2_with fail
          go_still_tail 30, (by kernel_rfl)
          rw [four_add]
          change wpList _ _ _ _ _ wr.drew
          clear q0 q1 q2 q3 r1 r2 r3
          go_wp2_with fail
          go_roundw
          case rel =>
            refine ⟨i + 1, by omega, by go_num, (hb.drew).setCell (Nat.le_refl _) _, ((hW.drew).set (i := i) (by omega) _).congr fun j _ => ?_⟩
            rw [← part_set, wd_low b h16]
            unfold wordB
            rw [HJ.out]
            rfl
          case measure => simp [intOf]; omega
      · have hi16 : ¬ (i : Int) < 16 := by omega
        obtain ⟨a2, H2⟩ : ∃ a2 : Nat, Hid (a2 + 2 = i) := ⟨i - 2, hid (by omega)⟩
        obtain ⟨a7, H7⟩ : ∃ a7 : Nat, Hid (a7 + 7 = i) := ⟨i - 7, hid (by omega)⟩
        obtain ⟨a15, H15⟩ : ∃ a15 : Nat, Hid (a15 + 15 = i) := ⟨i - 15, hid (by omega)⟩
        obtain ⟨a16, H16⟩ : ∃ a16 : Nat, Hid (a16 + 16 = i) := ⟨i - 16, hid (by omega)⟩
        have b2 : a2 < 64 := by have := H2.out; omega
        have b7 : a7 < 64 := by have := H7.out; omega
        have b15 : a15 < 64 := by have := H15.out; omega
        have b16 : a16 < 64 := by have := H16.out; omega
        have q2 : IntKind.i64.wrap ((i : Int) - 2) = (a2 : Int) := by rw [IntWalk.i64_in _ (by omega)]; have := H2.out; omega
        have q7 : IntKind.i64.wrap ((i : Int) - 7) = (a7 : Int) := by rw [IntWalk.i64_in _ (by omega)]; have := H7.out; omega
        have q15 : IntKind.i64.wrap ((i : Int) - 15) = (a15 : Int) := by rw [IntWalk.i64_in _ (by omega)]; have := H15.out; omega
        have q16 : IntKind.i64.wrap ((i : Int) - 16) = (a16 : Int) := by rw [IntWalk.i64_in _ (by omega)]; have := H16.out; omega
        have c2 := hW.cell (i := a2) (by omega)
        have c15 := hW.cell (i := a15) (by omega)
        have e2 : part (wd b) i a2 = .int .u32 (wv (wd b a2)) := if_pos (by have := H2.out; omega)
        have e7 : part (wd b) i a7 = .int .u32 (wv (wd b a7)) := if_pos (by have := H7.out; omega)
        have e15 : part (wd b) i a15 = .int .u32 (wv (wd b a15)) := if_pos (by have := H15.out; omega)
        have e16 : part (wd b) i a16 = .int .u32 (wv (wd b a16)) := if_pos (by have := H16.out; omega)
        rw [e2] at c2
        rw [e15] at c15
        have l2 : (a2 : Int) < 64 := by omega
        have l7 : (a7 : Int) < 64 := by omega
        have l15 : (a15 : Int) < 64 := by omega
        have l16 : (a16 : Int) < 64 := by omega
        have E7 := hid e7
        have E16 := hid e16
        clear e2 e7 e15 e16
        go_wp2_with fail
        go_quiet (fail)
        go_wp2_with (first
          | (go_at_call 89; ((with_reducible refine (rturn_same _ 17 17 rfl (by omega) _).mono ?_); rintro e w' ⟨rfl, rfl⟩))
          | (go_at_call 89; ((with_reducible refine (rturn_same _ 19 19 rfl (by omega) _).mono ?_); rintro e w' ⟨rfl, rfl⟩))
          | (go_at_call 90; ((with_reducible refine (rshift_same _ 10 10 rfl (by omega) _).mono ?_); rintro e w' ⟨rfl, rfl⟩)))
        as_aux_lemma =>
          have hraw : Value.int .u32 (bits BinOp.xor IntKind.u32 (bits BinOp.xor IntKind.u32 (wv (rr (wd b a2) 17)) (wv (rr (wd b a2) 19))) (wv (sr (wd b a2) 10))) = .int .u32 (wv (sm1 (wd b a2))) := by
            rw [wv_xor, wv_xor]
            rfl
          rw [hraw]
          clear hraw
          have hW2 : Blk ((wr.drewN nq).setCell ⟨G, i, none⟩ (.int .u32 (wv (sm1 (wd b a2))))) G 64 (fun j => if j = i then .int .u32 (wv (sm1 (wd b a2))) else part (wd b) i j) 113 := (hW.drewN nq).set (i := i) (by omega) _
          have hb2 : Below G w1 ((wr.drewN nq).setCell ⟨G, i, none⟩ (.int .u32 (wv (sm1 (wd b a2))))) := (below_drewN hb nq).setCell (Nat.le_refl _) _
          generalize (wr.drewN nq).setCell ⟨G, i, none⟩ (.int .u32 (wv (sm1 (wd b a2)))) = w2 at *
          have d0 := hW2.cell (i := i) (by omega)
          have d7 := hW2.cell (i := a7) (by omega)
          have d16 := hW2.cell (i := a16) (by omega)
          rw [if_pos rfl] at d0
          rw [if_neg (by have := H7.out; omega), E7.out] at d7
          rw [if_neg (by have := H16.out; omega), E16.out] at d16
          have f2 := hW2.free i
          have hlt2 := hW2.lt
          clear c2 c15 ki fi hW hb hltW
          refine wp_region_still_tail 23 (by kernel_rfl) (by kernel_rfl) ?_
          simp only [List.take_succ_cons, List.take_zero, List.drop_succ_cons, List.drop_zero]
          repeat still_step
          still_call (rturn_still _ 7 7 rfl (by omega) _)
          repeat still_step
          still_call (rturn_still _ 18 18 rfl (by omega) _)
          repeat still_step
          still_call (rshift_still _ 3 3 rfl (by omega) _)
          repeat still_step
          refine wpStill_nil ?_
          change wpList _ _ _ _ _ w2.drew
          as_aux_lemma =>
            clear q2 q7 q15 q16
            go_wp2_with fail
            go_roundw
            case rel =>
              refine ⟨i + 1, by omega, by go_num, (hb2.drew).setCell (Nat.le_refl _) _, ((hW2.drew).set (i := i) (by omega) _).congr fun j _ => ?_⟩
              by_cases hji : j = i
              · subst hji
                rw [if_pos rfl, wv_xor, wv_xor]
                unfold part
                rw [if_pos (by omega), wd_high b (by omega) hlt, show j - 2 = a2 from by have := H2.out; omega, show j - 7 = a7 from by have := H7.out; omega, show j - 15 = a15 from by have := H15.out; omega, show j - 16 = a16 from by have := H16.out; omega]
                unfold wc
                rw [← wv_sum4]
                rfl
              · rw [if_neg hji, if_neg hji]
                unfold part
                by_cases hj2 : j < i
                · rw [if_pos hj2, if_pos (by omega)]
                · rw [if_neg hj2, if_neg (by omega)]
            case measure => simp [intOf]; omega
    · have hi64 : ¬ (i : Int) < 64 := by omega
      have hW64 : Blk wr G 64 (fun j => wc (wd b j)) 113 := hW.congr fun j hj => if_pos (by omega)
      have hA2 := hA1.below hb (by omega)
      have hC2 := hC1.below hb (by omega)
      have hbw2 : Below w.heap.size w wr := hbw1.trans (hb.mono (by omega))
      have hK2 := hK.below hbw2
      obtain ⟨V, HV⟩ : ∃ V : Nat, Hid (wr.heap.size = V) := ⟨_, hid rfl⟩
      clear hA1 hB1 hC1 hK1 hW hb hbw1
      go_wp2_with (first
        | (refine wpList_load_arr arrS rfl _ rfl rfl hA2 ?_)
        | (refine wpList_alloc_arr arrS rfl rfl ?_)
        | (refine wpList_store_arr arrS rfl _ _ rfl rfl rfl (Blk.new wr 8 (fun _ => wc 0) 103) (fun _ _ => rfl) ?_; intro w3 hg3 hV3 hs3))
      have hGV : G < V := by have := HV.out; omega
      have hA3 : Blk w3 w.heap.size 8 (fun j => wc (s j)) 103 := (hA2.alloc _).grown hg3 (fun e => by have := Option.some.inj e; have := HV.out; omega)
      have hC3 : Blk w3 (w.heap.size + 1 + 1) 8 (fun _ => wc 0) 103 := (hC2.alloc _).grown hg3 (fun e => by have := Option.some.inj e; have := HV.out; omega)
      have hW3 : Blk w3 G 64 (fun j => wc (wd b j)) 113 := (hW64.alloc _).grown hg3 (fun e => by have := Option.some.inj e; have := HV.out; omega)
      have hbw3 : Below w.heap.size w w3 := (hbw2.alloc hbw2.size _).grown hg3 (by have := hbw2.size; simp; omega) (fun k hk => by injection hk; have := HV.out; omega)
      rw [HV.out] at hV3 ⊢
      have hK3 := hK.below hbw3
      have hltV := hV3.lt
      clear hA2 hC2 hW64 hbw2 hK2 hg3 hs3 hltW hlt1
      go_wp2_with fail
      as_aux_lemma =>
        go_loopw [10] (fun si wr => ∃ (k : Nat) (xa xb xc xd xe xf xg xh : UInt32), k ≤ 64 ∧ si = .int .i64 k ∧ Hid (rnds (wd b) k (St.of s) = ⟨xa, xb, xc, xd, xe, xf, xg, xh⟩) ∧ Below V w3 wr ∧ Blk wr V 8 (fun j => .int .u32 (wv ([xa, xb, xc, xd, xe, xf, xg, xh].getD j 0))) 103) (fun si _ => 64 - (intOf si).toNat)
        case atStart =>
          refine ⟨0, s 0, s 1, s 2, s 3, s 4, s 5, s 6, s 7, by omega, rfl, hid rfl, Below.refl _ _, hV3.congr fun j hj => ?_⟩
          obtain rfl | rfl | rfl | rfl | rfl | rfl | rfl | rfl : j = 0 ∨ j = 1 ∨ j = 2 ∨ j = 3 ∨ j = 4 ∨ j = 5 ∨ j = 6 ∨ j = 7 := by omega
          all_goals rfl
        case round =>
          clear hV3 hltV
          obtain ⟨k, xa, xb, xc, xd, xe, xf, xg, xh, hk, rfl, HR, hbV, hV⟩ := hrel
          have hltV := hV.lt
          by_cases hlt : k < 64
          · have hk64 : (k : Int) < 64 := by omega
            have l0 : wr.cell? ⟨V, 0, none⟩ = some (.int .u32 (wv xa)) := hV.cell (i := 0) (by omega)
            have l1 : wr.cell? ⟨V, 1, none⟩ = some (.int .u32 (wv xb)) := hV.cell (i := 1) (by omega)
            have l2 : wr.cell? ⟨V, 2, none⟩ = some (.int .u32 (wv xc)) := hV.cell (i := 2) (by omega)
            have l3 : wr.cell? ⟨V, 3, none⟩ = some (.int .u32 (wv xd)) := hV.cell (i := 3) (by omega)
            have l4 : wr.cell? ⟨V, 4, none⟩ = some (.int .u32 (wv xe)) := hV.cell (i := 4) (by omega)
            have l5 : wr.cell? ⟨V, 5, none⟩ = some (.int .u32 (wv xf)) := hV.cell (i := 5) (by omega)
            have l6 : wr.cell? ⟨V, 6, none⟩ = some (.int .u32 (wv xg)) := hV.cell (i := 6) (by omega)
            have l7 : wr.cell? ⟨V, 7, none⟩ = some (.int .u32 (wv xh)) := hV.cell (i := 7) (by omega)
            have lw := (hW3.below hbV hGV).cell (i := k) hlt
            unfold wc at lw
            have hK0 : 1 < V := by have := hK.1; have := HV.out; omega
            have lk := (hbV.cell (p := ⟨1, k, none⟩) hK0).trans (hK3.2 k hlt)
            have hlt0 : 0 < wr.heap.size := by omega
            have hltG2 : G < wr.heap.size := by omega
            have hbe := wv_lt xe
            obtain ⟨hbe0, hbe1⟩ := hbe
            obtain ⟨C1, HC1⟩ : ∃ C : UInt32, Hid (chc xe xf xg = C) := ⟨_, hid rfl⟩
            obtain ⟨M1, HM1⟩ : ∃ C : UInt32, Hid (maj xa xb xc = C) := ⟨_, hid rfl⟩
            obtain ⟨B1, HB1⟩ : ∃ C : UInt32, Hid (bg1 xe = C) := ⟨_, hid rfl⟩
            obtain ⟨B0, HB0⟩ : ∃ C : UInt32, Hid (bg0 xa = C) := ⟨_, hid rfl⟩
            obtain ⟨T, HT⟩ : ∃ C : UInt32, Hid (xh + B1 + C1 + kc k + wd b k = C) := ⟨_, hid rfl⟩
            obtain ⟨U, HU⟩ : ∃ C : UInt32, Hid (B0 + M1 = C) := ⟨_, hid rfl⟩
            have e1 : bits BinOp.or IntKind.u32 (bits BinOp.and IntKind.u32 (wv xe) (wv xf)) (bits BinOp.and IntKind.u32 (4294967295 - wv xe) (wv xg)) = wv C1 := by rw [wv_not, wv_and, wv_and, wv_or, ← HC1.out]; rfl
            have e2 : bits BinOp.or IntKind.u32 (bits BinOp.or IntKind.u32 (bits BinOp.and IntKind.u32 (wv xa) (wv xb)) (bits BinOp.and IntKind.u32 (wv xa) (wv xc))) (bits BinOp.and IntKind.u32 (wv xb) (wv xc)) = wv M1 := by rw [wv_and, wv_and, wv_and, wv_or, wv_or, ← HM1.out]; rfl
            have e3 : bits BinOp.xor IntKind.u32 (bits BinOp.xor IntKind.u32 (wv (rr xe 6)) (wv (rr xe 11))) (wv (rr xe 25)) = wv B1 := by rw [wv_xor, wv_xor, ← HB1.out]; rfl
            have e4 : bits BinOp.xor IntKind.u32 (bits BinOp.xor IntKind.u32 (wv (rr xa 2)) (wv (rr xa 13))) (wv (rr xa 22)) = wv B0 := by rw [wv_xor, wv_xor, ← HB0.out]; rfl
            have e5 : (wv xh + wv B1 + wv C1 + wv (kc k) + wv (wd b k)) % 4294967296 = wv T := by rw [wv_sum5, HT.out]
            go_wp2_with fail
            go_quiet (fail)
            go_wp2_with fail
            go_quiet ((go_at_call 89; exact quiet2 (rturn_lit _ _ (by omega) (by omega) _)))
            first
              | rw [wv_sum4, wv_add, HT.out]
              | rw [wv_sum5, HT.out]
            clear e1 e2 e3 e5
            have hVq : ∀ n wq, wr.drewN n = wq → Blk wq V 8 (fun j => .int .u32 (wv ([xa, xb, xc, xd, xe, xf, xg, xh].getD j 0))) 103 := fun n wq e => by subst e; exact blk_heap hV rfl
            have hbq : ∀ n wq, wr.drewN n = wq → Below V w3 wq := fun n wq e => by subst e; exact below_drewN hbV n
            clear hlt0 hltG2 hbe0 hbe1 lw lk hbV hV l0 l1 l2 l3 l4 l5 l6 l7 hltV
            go_wp2_with fail
            refine (rturn_lit2 _ _ (by omega) (by omega) _).mono ?_
            rintro e w' ⟨rfl, rfl⟩
            go_wp2_with fail
            refine (rturn_lit2 _ _ (by omega) (by omega) _).mono ?_
            rintro e w' ⟨rfl, rfl⟩
            go_wp2_with fail
            refine (rturn_lit2 _ _ (by omega) (by omega) _).mono ?_
            rintro e w' ⟨rfl, rfl⟩
            generalize hwq : wr.drewN _ = wq
            have hV := hVq _ _ hwq
            have hbV := hbq _ _ hwq
            clear hVq hbq hwq
            have l0 : wq.cell? ⟨V, 0, none⟩ = some (.int .u32 (wv xa)) := hV.cell (i := 0) (by omega)
            have l1 : wq.cell? ⟨V, 1, none⟩ = some (.int .u32 (wv xb)) := hV.cell (i := 1) (by omega)
            have l2 : wq.cell? ⟨V, 2, none⟩ = some (.int .u32 (wv xc)) := hV.cell (i := 2) (by omega)
            have l3 : wq.cell? ⟨V, 3, none⟩ = some (.int .u32 (wv xd)) := hV.cell (i := 3) (by omega)
            have l4 : wq.cell? ⟨V, 4, none⟩ = some (.int .u32 (wv xe)) := hV.cell (i := 4) (by omega)
            have l5 : wq.cell? ⟨V, 5, none⟩ = some (.int .u32 (wv xf)) := hV.cell (i := 5) (by omega)
            have l6 : wq.cell? ⟨V, 6, none⟩ = some (.int .u32 (wv xg)) := hV.cell (i := 6) (by omega)
            have l7 : wq.cell? ⟨V, 7, none⟩ = some (.int .u32 (wv xh)) := hV.cell (i := 7) (by omega)
            have hltV := hV.lt
            go_simp
            go_wp2_with (first
              | (refine wpList_build_eight rfl rfl _ _ _ _ _ _ _ _ rfl rfl rfl rfl rfl rfl rfl rfl ?_)
              | (refine wpList_store_eight rfl (.tmp 9) (.tmp 182) rfl rfl rfl hV ?_; intro w5 hg5 hV5 hs5))
            have hV6 : Blk w5 V 8 (fun j => .int .u32 (wv ([T + U, xa, xb, xc, xd + T, xe, xf, xg].getD j 0))) 103 := hV5.congr fun j hj => by
              obtain rfl | rfl | rfl | rfl | rfl | rfl | rfl | rfl : j = 0 ∨ j = 1 ∨ j = 2 ∨ j = 3 ∨ j = 4 ∨ j = 5 ∨ j = 6 ∨ j = 7 := by omega
              · show Value.int IntKind.u32 ((wv T + (wv B0 + wv M1) % 4294967296) % 4294967296) = Value.int IntKind.u32 (wv (T + U))
                rw [wv_add, wv_add, HU.out]
              · rfl
              · rfl
              · rfl
              · show Value.int IntKind.u32 ((wv xd + wv T) % 4294967296) = Value.int IntKind.u32 (wv (xd + T))
                rw [wv_add]
              · rfl
              · rfl
              · rfl
            clear e4 l0 l1 l2 l3 l4 l5 l6 l7
            go_roundw
            case rel =>
              refine ⟨k + 1, T + U, xa, xb, xc, xd + T, xe, xf, xg, by omega, by go_num, hid ?_, below_heap hbV hg5 rfl rfl rfl rfl (by omega), hV6⟩
              unfold rnds
              rw [HR.out, ← HT.out, ← HU.out, ← HB1.out, ← HC1.out, ← HB0.out, ← HM1.out]
              rfl
            case measure => simp [intOf]; omega
          · have hk64 : ¬ (k : Int) < 64 := by omega
            have HR64 : Hid (rnds (wd b) 64 (St.of s) = ⟨xa, xb, xc, xd, xe, xf, xg, xh⟩) := by
              have e : k = 64 := by omega
              rw [← e]
              exact HR
            have hA4 := hA3.below hbV (by omega)
            have hC4 := hC3.below hbV (by omega)
            have hbw4 : Below w.heap.size w wr := hbw3.trans (hbV.mono (by omega))
            have hV4 : Blk wr V 8 (fun j => if j < 0 then wc (turnS s b j) else .int .u32 (wv ((rnds (wd b) 64 (St.of s)).at_ j))) 103 := hV.congr fun j _ => by
              rw [if_neg (by omega), HR64.out]
              rfl
            clear hA3 hC3 hW3 hbw3 hK3 hV hbV HR HR64
            obtain ⟨wo, rfl⟩ : ∃ wo : World, wo = wr := ⟨_, rfl⟩
            go_wp2_with fail
            go_loopw [17] (fun si wr => ∃ m : Nat, m ≤ 8 ∧ si = .int .i64 m ∧ Below V wo wr ∧ Blk wr V 8 (fun j => if j < m then wc (turnS s b j) else .int .u32 (wv ((rnds (wd b) 64 (St.of s)).at_ j))) 103) (fun si _ => 8 - (intOf si).toNat)
            case atStart => exact ⟨0, by omega, rfl, Below.refl _ _, hV4⟩
            case round =>
              clear hV4
              obtain ⟨m, hm, rfl, hb5, hV⟩ := hrel
              have hltV5 := hV.lt
              have hltA5 : w.heap.size < wr.heap.size := by omega
              by_cases hlt2 : m < 8
              · have hm8 : (m : Int) < 8 := by omega
                have kv := hV.cell (i := m) (by omega)
                rw [if_neg (by omega)] at kv
                have fv := hV.free m
                have ks := (hA4.below hb5 (by omega)).cell (i := m) (by omega)
                unfold wc at ks
                go_wp2_with fail
                go_still_tail 8, (by kernel_rfl)
                change wpList _ _ _ _ _ wr.drew
                go_wp2_with fail
                go_roundw
                case rel =>
                  refine ⟨m + 1, by omega, by go_num, (hb5.drew).setCell (Nat.le_refl _) _, ((hV.drew).set (i := m) (by omega) _).congr fun q _ => ?_⟩
                  by_cases hq : q = m
                  · subst hq
                    rw [if_pos rfl, if_pos (by omega)]
                    unfold turnS wc
                    rw [UInt32.add_comm, ← wv_add]
                  · rw [if_neg hq]
                    by_cases hq2 : q < m
                    · rw [if_pos hq2, if_pos (by omega)]
                    · rw [if_neg hq2, if_neg (by omega)]
                case measure => simp [intOf]; omega
              · have hm8 : ¬ (m : Int) < 8 := by omega
                have hVr : Blk wr V 8 (fun j => wc (turnS s b j)) 103 := hV.congr fun j hj => if_pos (by omega)
                have hC5 := hC4.below hb5 (by omega)
                have hbw5 : Below w.heap.size w wr := hbw4.trans (hb5.mono (by omega))
                go_wp2_with (first
                  | (refine wpList_load_arr arrS rfl _ rfl rfl hVr ?_)
                  | (refine wpList_store_arr arrS rfl _ _ rfl rfl rfl hC5 (fun _ _ => rfl) ?_; intro w9 hg9 hC9 hs9))
                refine bodyPost_ret (arrS.result rfl _ _ rfl hC9) rfl ⟨rfl, ?_⟩
                exact below_into hbw5 (by omega) hg9 hbw5.size
end Go.Proofs.YthgdgkdnidjdgaaDoor

/-
  tithingref02.Of gives the sum of a text.
-/
namespace Go.Proofs.YthgdgkdnidjdgaaDoor
set_option maxRecDepth 20000
open Go.RowKit

theorem grown_of_below2 {w w' : World} (h : Below w.heap.size w w') (row : Option Nat) : w.grownBy w' row := ⟨h.os, h.tape, h.output, h.size, fun k hk _ => h.block k hk⟩

set_option maxHeartbeats 3200000 in
theorem refOf_any (v : Value) (l : List UInt8) (w : World) (hv : Byt w v l) (hs : l.length ≤ 1000000) (hK : Kst 1 w) :
    Calls Tryd.prog 79 #[v] w fun e w' => e = .returned (.agg (fcells 32 fun j => bcell (sumS l j))) ∧ Below w.heap.size w w' := by
  obtain ⟨A, c, rfl⟩ := hv.shape
  obtain ⟨L, HL⟩ : ∃ L : Nat, Hid (l.length = L) := ⟨_, hid rfl⟩
  rw [HL.out] at hs hv ⊢
  go_enter Tryd.func79, Tryd.ntmps79
  go_wp2_with (first
    | (refine wpList_alloc_arr arrH rfl rfl ?_)
    | (refine wpList_build_eight rfl rfl _ _ _ _ _ _ _ _ rfl rfl rfl rfl rfl rfl rfl rfl ?_)
    | (refine wpList_alloc_arr arrS rfl rfl ?_)
    | (refine wpList_store_arr arrS (f' := fun j => wc (start j)) rfl _ _ rfl rfl rfl (Blk.new _ 8 (fun _ => wc 0) 103) (fun _ _ => rfl) ?_; intro w1 hg1 hS1 hs1))
  have hb1 : Below w.heap.size w w1 := (((Below.refl _ _).alloc (Nat.le_refl _) (.cells (fcells 32 fun _ => bcell 0) 27)).alloc (by simp) (.cells (fcells 8 fun _ => wc 0) 103)).grown hg1 (by simp; omega) (fun k hk => by injection hk; simp at *; omega)
  have hH1 : Blk w1 w.heap.size 32 (fun _ => bcell 0) 27 := ((Blk.new w 32 (fun _ => bcell 0) 27).alloc _).grown hg1 (by simp)
  have hv1 := hv.below hb1
  have hs1' := hb1.size
  clear hg1 hs1
  go_wp2_with fail
  refine (refFill_any _ l w1 hv1 (by rw [HL.out]; omega)).mono ?_
  rintro e w2 ⟨v2, rfl, hown2, hb2⟩
  obtain ⟨A2, c2, rfl⟩ := hown2.byt.shape
  obtain ⟨F, HF⟩ : ∃ F : Nat, Hid ((fillS l).length = F) := ⟨_, hid rfl⟩
  have hF0 := fillS_length l
  have hF1 := fillS_mod l
  have hnl := noughts_le l.length
  rw [HF.out] at hown2 hF0 hF1 ⊢
  rw [HL.out] at hF0 hnl
  obtain ⟨P, HP⟩ : ∃ P : Nat, Hid (F = 64 * P) := ⟨F / 64, hid (by omega)⟩
  have hF2 : F ≤ 1000100 := by omega
  clear hF0 hF1 hnl
  obtain ⟨S, HS⟩ : ∃ S : Nat, Hid (w.heap.size + 1 = S) := ⟨_, hid rfl⟩
  have hS0 : Blk w1 (w.heap.size + 1) 8 (fun j => wc (start j)) 103 := by simpa using hS1
  rw [HS.out] at hS0 ⊢
  have hSw1 := hS0.lt
  have hSw : w.heap.size < S := by have := HS.out; omega
  have hS2 : Blk w2 S 8 (fun j => wc (absb (fillS l) 0 j)) 103 := hS0.keep hb2
  have hH2 := hH1.keep hb2
  have hbw2 := hb1.trans (hb2.mono hs1')
  have hs2 := hb2.size
  have hv2 := hown2.byt
  have hne : (Value.slice A2 F c2).ownBlock ≠ some S := fun e => by have := (World.ownsRow.lt hown2 S e).1; omega
  have hS2w : S < w2.heap.size := by omega
  have HH := hid hH2
  have HK := hid hK
  clear hS1 hS0 hH1 hv1 hb1 hb2 hown2 hH2 hv hK
  try go_frame
  go_wp2_with fail
  go_loopw [5] (fun si wr => ∃ i k : Nat, k ≤ P ∧ Hid (i = 64 * k) ∧ si = .int .i64 i ∧ w2.grownBy wr (some S) ∧ Blk wr S 8 (fun j => wc (absb (fillS l) k j)) 103) (fun si _ => F - (intOf si).toNat)
  case atStart => exact ⟨0, 0, Nat.zero_le _, hid rfl, rfl, grown_of_below2 (Below.refl _ _) _, hS2⟩
  case round =>
    clear hS2
    obtain ⟨i, k, hk, HI, rfl, hgr, hS⟩ := hrel
    have hltS := hS.lt
    have hgs := hgr.size
    by_cases hlt : k < P
    · have hiF : (i : Int) < (F : Int) := by have := HI.out; have := HP.out; omega
      have hvr : Byt wr (.slice A2 F c2) (fillS l) := hv2.keep hgs fun b hb e => hgr.block b hb (fun e2 => hne (by rw [e, e2]))
      have hc1 := hvr.at_.2.1
      have hr := hvr.at_.2.2.2
      rw [HF.out] at hc1
      obtain ⟨b, off, rfl, hb2, hcell⟩ := hr (by rw [HF.out]; omega)
      have HC := hid hcell
      clear hr hcell
      obtain ⟨wo, rfl⟩ : ∃ wo : World, wo = wr := ⟨_, rfl⟩
      go_wp2_with (first
        | (refine wpList_zero_arr arrB rfl rfl ?_)
        | (refine wpList_alloc_arr arrB rfl rfl ?_)
        | (refine wpList_store_arr arrB rfl _ _ rfl rfl rfl (Blk.new wo 64 (fun _ => bcell 0) 96) (fun _ _ => rfl) ?_; intro w4 hg4 hB4 hs4))
      obtain ⟨B, HB⟩ : ∃ B : Nat, Hid (wo.heap.size = B) := ⟨_, hid rfl⟩
      have hS4 : Blk w4 S 8 (fun j => wc (absb (fillS l) k j)) 103 := (hS.alloc _).grown hg4 (by simp; omega)
      have hbB4 : Below wo.heap.size wo w4 := ((Below.refl _ _).alloc (Nat.le_refl _) _).grown hg4 (by simp) (fun k hk => by injection hk; omega)
      have hbB1 : b < B := by have := HB.out; omega
      rw [HB.out] at hB4 hltS hbB4 ⊢
      clear hg4 hs4
      go_wp2_with fail
      go_loopw [7] (fun sm wr => ∃ m : Nat, m ≤ 64 ∧ sm = .int .i64 m ∧ Below B wo wr ∧ Blk wr B 64 (partB (blockOf (fillS l) k) m) 96) (fun sm _ => 64 - (intOf sm).toNat)
      case atStart => exact ⟨0, by omega, rfl, hbB4, hB4.congr fun i _ => by simp [partB]⟩
      case round =>
        clear hbB4 hS4 hB4
        obtain ⟨m, hm, rfl, hbB, hB⟩ := hrel
        have hltB := hB.lt
        by_cases hlt2 : m < 64
        · have hm64 : (m : Int) < 64 := by omega
          have hif : i + m < F := by have := HI.out; have := HP.out; omega
          have hif2 : (i : Int) + (m : Int) < (F : Int) := by omega
          have hlf : i + m < (fillS l).length := by rw [HF.out]; exact hif
          have ck := (hbB.cell (p := ⟨b, off + (i + m), none⟩) hbB1).trans (HC.out (i + m) hlf)
          have kb := hB.cell (i := m) (by omega)
          have fb := hB.free m
          have hval : bcell (fillS l)[i + m] = bcell (blockOf (fillS l) k m) := by
            unfold blockOf
            rw [← HI.out, List.getD_eq_getElem?_getD, List.getElem?_eq_getElem hlf]
            rfl
          have HV := hid hval
          unfold bcell at ck
          clear hval
          go_wp2_with fail
          go_roundw
          case rel =>
            refine ⟨m + 1, by omega, by go_num, below_set hbB (g := B) (Nat.le_refl _) _ _, (hB.set (i := m) (by omega) _).congr fun q _ => ?_⟩
            rw [← partB_set, ← HV.out]
            rfl
          case measure => simp [intOf]; omega
        · have hm64 : ¬ (m : Int) < 64 := by omega
          have hB2 : Blk wr B 64 (fun j => bcell (blockOf (fillS l) k j)) 96 := hB.congr fun q hq => if_pos (by omega)
          have hSr := hS.below hbB hltS
          have hgr2 : w2.grownBy wr (some S) := hgr.trans (grown_of_below2 (by rw [HB.out]; exact hbB) _)
          have hbw : Below w.heap.size w wr := hbw2.grown hgr2 hbw2.size (fun k hk => by injection hk; omega)
          have hKr := HK.out.below hbw
          go_wp2_with (first
            | (refine wpList_load_arr arrS rfl _ rfl rfl hSr ?_)
            | (refine wpList_load_arr arrB rfl _ rfl rfl hB2 ?_))
          refine (refTurn_any _ _ wr hKr).mono ?_
          rintro e w6 ⟨rfl, hb6⟩
          have hS6 := hSr.keep hb6
          have hg6 : w2.grownBy w6 (some S) := hgr2.trans (grown_of_below2 hb6 _)
          go_wp2_with (refine wpList_store_arr arrS rfl _ _ rfl rfl rfl hS6 (fun _ _ => rfl) ?_; intro w7 hg7 hS7 hs7)
          go_roundw
          case rel => exact ⟨i + 64, k + 1, by omega, hid (by have := HI.out; omega), by go_num, hg6.trans hg7, hS7⟩
          case measure => simp [intOf]; omega
    · have hiF : ¬ (i : Int) < (F : Int) := by have := HI.out; have := HP.out; omega
      have ekP : k = P := by omega
      have hS' : Blk wr S 8 (fun j => wc (absb (fillS l) P j)) 103 := by rw [← ekP]; exact hS
      have hbw : Below w.heap.size w wr := hbw2.grown hgr hbw2.size (fun k hk => by injection hk; omega)
      have hH : Blk wr w.heap.size 32 (fun _ => bcell 0) 27 := HH.out.grown hgr (fun e => by have := Option.some.inj e; omega)
      clear hS
      obtain ⟨wo, rfl⟩ : ∃ wo : World, wo = wr := ⟨_, rfl⟩
      go_wp2_with (first
        | (refine wpList_zero_arr arrH rfl rfl ?_)
        | (refine wpList_alloc_arr arrH rfl rfl ?_)
        | (refine wpList_store_arr arrH rfl _ _ rfl rfl rfl (Blk.new wo 32 (fun _ => bcell 0) 27) (fun _ _ => rfl) ?_; intro w8 hg8 hQ8 hs8))
      obtain ⟨Q, HQ⟩ : ∃ Q : Nat, Hid (wo.heap.size = Q) := ⟨_, hid rfl⟩
      have hbQ8 : Below wo.heap.size wo w8 := ((Below.refl _ _).alloc (Nat.le_refl _) _).grown hg8 (by simp) (fun k hk => by injection hk; omega)
      have hltH := hH.lt
      rw [HQ.out] at hQ8 hltS hbQ8 hltH ⊢
      clear hg8 hs8
      go_wp2_with fail
      go_loopw [9] (fun si wr => ∃ i : Nat, i ≤ 32 ∧ si = .int .i64 i ∧ Below Q wo wr ∧ Blk wr Q 32 (partB (sumS l) i) 27) (fun si _ => 32 - (intOf si).toNat)
      case atStart => exact ⟨0, by omega, rfl, hbQ8, hQ8.congr fun i _ => by simp [partB]⟩
      case round =>
        clear hbQ8 hQ8
        obtain ⟨j, hj, rfl, hbQ, hQ⟩ := hrel
        have hltQ := hQ.lt
        by_cases hlt2 : j < 32
        · have hj32 : (j : Int) < 32 := by omega
          have cs := (hS'.below hbQ hltS).cell (i := j / 4) (by omega)
          have kc := hQ.cell (i := j) (by omega)
          have fc := hQ.free j
          unfold wc at cs
          have t1 : Int.tdiv (j : Int) 4 = ((j / 4 : Nat) : Int) := by rw [Int.tdiv_eq_ediv_of_nonneg (by omega)]; omega
          have t2 : Int.tmod (j : Int) 4 = ((j % 4 : Nat) : Int) := by rw [Int.tmod_eq_emod_of_nonneg (by omega)]; omega
          have hval : Value.int .u8 (wv (absb (fillS l) P (j / 4)) / 2 ^ (24 - 8 * (j % 4)) % 256) = bcell (sumS l j) := by
            unfold sumS
            rw [show (fillS l).length / 64 = P from by have := HF.out; have := HP.out; omega]
            unfold bcell byteOf
            rw [u8_ofNat]
            unfold wv
            simp
          have HV := hid hval
          clear hval
          go_wp2_with fail
          go_roundw
          case rel =>
            refine ⟨j + 1, by omega, by go_num, below_set hbQ (g := Q) (Nat.le_refl _) _ _, (hQ.set (i := j) (by omega) _).congr fun q _ => ?_⟩
            rw [HV.out, ← partB_set]
          case measure => simp [intOf]; omega
        · have hj32 : ¬ (j : Int) < 32 := by omega
          have hQ2 : Blk wr Q 32 (fun j => bcell (sumS l j)) 27 := hQ.congr fun q hq => if_pos (by omega)
          have hH2 := hH.below hbQ hltH
          have hbw3 : Below w.heap.size w wr := hbw.trans (hbQ.mono (by omega))
          go_wp2_with (first
            | (refine wpList_load_arr arrH rfl _ rfl rfl hQ2 ?_)
            | (refine wpList_store_arr arrH rfl _ _ rfl rfl rfl hH2 (fun _ _ => rfl) ?_; intro w9 hg9 hC9 hs9))
          refine bodyPost_ret (arrH.result rfl _ _ rfl hC9) rfl ⟨rfl, ?_⟩
          exact below_into hbw3 (Nat.le_refl _) hg9 hbw3.size
end Go.Proofs.YthgdgkdnidjdgaaDoor

/-
  tithingref04.Key gives a part's key.
-/
namespace Go.Proofs.YthgdgkdnidjdgaaDoor
set_option maxRecDepth 20000
open Go.RowKit

theorem byt_cells {w : World} {a : Addr} {n c : Nat} {l : List UInt8} (h : Byt w (.slice (some a) n c) l) : ∀ j u, (bcells l)[j]? = some u → w.cell? (a.add j) = some u := fun j u hu => by
  obtain ⟨hj, rfl⟩ := bcells_get l j u hu
  obtain ⟨b, off, e, _, hc⟩ := h.at_.2.2.2 (by omega)
  injection e with e
  subst e
  rw [addr_add]
  exact hc j hj

/-- The world ahead of the append of a part's number. -/
def key2W (w : World) (n : Nat) : World := (w.alloc (.cells #[.int .u8 116, .int .u8 105, .int .u8 116, .int .u8 104, .int .u8 105, .int .u8 110, .int .u8 103, .int .u8 32, .int .u8 107, .int .u8 101, .int .u8 121, .int .u8 32] 5 (12, 13))).alloc (.cells #[.int .u8 (n : Int)] 5)
theorem key2_world (w : World) (n : Nat) (hn : n ≤ 21) : Below w.heap.size w (key2W w n) ∧ w.heap.size + 1 < (key2W w n).heap.size ∧ (∀ b, some (⟨w.heap.size, 0, none⟩ : Addr) = some b → ∀ j u, (bcells aheadL)[j]? = some u → (key2W w n).cell? (b.add j) = some u) ∧ ∀ j u, (bcells [UInt8.ofNat n])[j]? = some u → (key2W w n).cell? ((⟨w.heap.size + 1, 0, none⟩ : Addr).add j) = some u := by
  unfold key2W
  refine ⟨?_, by simp, ?_, ?_⟩
  · exact ((Below.refl _ _).alloc (Nat.le_refl _) _).alloc (by simp) _
  · intro b hb
    injection hb with hb
    subst hb
    refine byt_cells (n := 12) (c := 12) (byt_row (l := aheadL) (m := (12, 13)) (T := 5) ?_ (by decide))
    rw [heap1]
    rfl
  · refine byt_cells (n := 1) (c := 1) (byt_row (l := [UInt8.ofNat n]) (m := (0, 0)) (T := 5) ?_ (by show 1 ≤ maxLen; unfold maxLen; omega))
    rw [heap2]
    rw [ofNat_small hn]
    rfl

set_option maxHeartbeats 1600000 in
theorem refPart_any (i : Int) (w : World) (hK : Kst 1 w) : Calls Tryd.prog 72 #[.int .i64 i] w fun e w' => e = .returned (.agg (fcells 32 fun j => bcell (keyF i j))) ∧ Below w.heap.size w w' := by
  have hb0 : Below w.heap.size w (w.alloc (.cells (fcells 32 fun _ => bcell 0) 27)) := (Below.refl _ _).alloc (Nat.le_refl _) _
  have hR0 : Blk (w.alloc (.cells (fcells 32 fun _ => bcell 0) 27)) w.heap.size 32 (fun _ => bcell 0) 27 := Blk.new w _ _ _
  cases hn : nodeB i
  · rw [keyF_no hn]
    have hno : ¬ (1 ≤ i ∧ i ≤ 21) := by
      unfold nodeB at hn
      exact of_decide_eq_false hn
    clear hn
    by_cases h1 : i < 1
    · clear hno
      go_enter Tryd.func72, Tryd.ntmps72
      go_wp2_with (first
        | (refine wpList_alloc_arr arrH rfl rfl ?_)
        | (refine wpList_zero_arr arrH rfl rfl ?_)
        | (refine wpList_store_arr arrH rfl _ _ rfl rfl rfl hR0 (fun _ _ => rfl) ?_; intro w9 hg9 hA9 hs9))
      refine bodyPost_ret (arrH.result rfl _ _ rfl hA9) rfl ⟨rfl, ?_⟩
      exact below_into hb0 (g := w.heap.size) (by omega) hg9 hb0.size
    · have h2 : 21 < i := by omega
      clear hno
      go_enter Tryd.func72, Tryd.ntmps72
      go_wp2_with (first
        | (refine wpList_alloc_arr arrH rfl rfl ?_)
        | (refine wpList_zero_arr arrH rfl rfl ?_)
        | (refine wpList_store_arr arrH rfl _ _ rfl rfl rfl hR0 (fun _ _ => rfl) ?_; intro w9 hg9 hA9 hs9))
      refine bodyPost_ret (arrH.result rfl _ _ rfl hA9) rfl ⟨rfl, ?_⟩
      exact below_into hb0 (g := w.heap.size) (by omega) hg9 hb0.size
  · rw [keyF_yes hn]
    obtain ⟨n, rfl, h1, h2⟩ := node_nat hn
    have h1i : ¬ (n : Int) < 1 := by omega
    have h2i : ¬ 21 < (n : Int) := by omega
    clear hn
    have HB0 := hid hb0
    have HR0 := hid hR0
    clear hb0 hR0
    generalize hw0 : w.alloc (.cells (fcells 32 fun _ => bcell 0) 27) = w0 at *
    obtain ⟨hb1, hz1, co, cn⟩ := key2_world w0 n h2
    have HW1 : Hid (key2W w0 n = (w0.alloc (.cells #[.int .u8 116, .int .u8 105, .int .u8 116, .int .u8 104, .int .u8 105, .int .u8 110, .int .u8 103, .int .u8 32, .int .u8 107, .int .u8 101, .int .u8 121, .int .u8 32] 5 (12, 13))).alloc (.cells #[.int .u8 (n : Int)] 5)) := hid rfl
    have HB1 := hid hb1
    have HCO := hid co
    have HCN := hid cn
    clear hb1 hz1 co cn
    have HW0 := hid hw0
    clear hw0
    obtain ⟨i0, hi, hz0, hz1, hz2⟩ := info_parts info_u8
    have kc := conv1
    go_enter Tryd.func72, Tryd.ntmps72
    go_wp2_with (first
      | (refine wpList_alloc_arr arrH rfl rfl ?_; rw [HW0.out])
      | (at_builtin; refine wpList_append_grows (key2W w0 n) rfl (.tmp 11) (.tmp 14) 40 rfl 5 i0 (.int .u8 0) 1 1 under_bytes hi hz0 hz1 hz2 rfl (by decide) (some ⟨w0.heap.size, 0, none⟩) 12 12 (bcells aheadL) rfl (by simp) rfl HCO.out ⟨w0.heap.size + 1, 0, none⟩ 1 1 (bcells [UInt8.ofNat n]) rfl rfl HCN.out (bcells_one _) (by decide) (by unfold maxLen; omega) (by decide) ?_; intro v3 w3 hown3 hg3))
    have hown : Own (key2W w0 n).heap.size w3 v3 (aheadL ++ [UInt8.ofNat n]) := by
      unfold Own
      rw [bcells_append]
      exact hown3
    have hb3 : Below w.heap.size w w3 := (HB0.out.trans (HB1.out.mono HB0.out.size)).grown hg3 (by have h1 := HB0.out.size; have h2 := HB1.out.size; omega) (fun k hk => by cases hk)
    have hR3 := (HR0.out.keep HB1.out).grown hg3 (fun e => by cases e)
    have hK3 := hK.below hb3
    clear hown3 hg3 kc hi hz0 hz1 hz2
    refine (refOf_any v3 _ w3 hown.byt (by show 13 ≤ 1000000; omega) hK3).mono ?_
    rintro e w4 ⟨rfl, hb4⟩
    have hR4 := hR3.keep hb4
    have hb4' := hb3.trans (hb4.mono hb3.size)
    clear hown hb3 hR3 hK3 hb4
    go_wp2_with (refine wpList_store_arr arrH rfl _ _ rfl rfl rfl hR4 (fun _ _ => rfl) ?_; intro w9 hg9 hA9 hs9)
    refine bodyPost_ret (arrH.result rfl _ _ rfl hA9) rfl ⟨rfl, ?_⟩
    exact below_into hb4' (g := w.heap.size) (by omega) hg9 hb4'.size
end Go.Proofs.YthgdgkdnidjdgaaDoor

/-
  mac.Block gives a key's block.
-/
namespace Go.Proofs.YthgdgkdnidjdgaaDoor
set_option maxRecDepth 20000
open Go.RowKit

theorem keyB_long {key : List UInt8} (h : 64 < key.length) (j : Nat) : keyB key j = if j < 32 then sumS key j else 0 := if_pos h
theorem keyB_short {key : List UInt8} (h : ¬ 64 < key.length) (j : Nat) : keyB key j = key.getD j 0 := if_neg h

theorem keyB_cells {key : List UInt8} (h : ¬ 64 < key.length) {w : World} {g : Nat} {t : TypeId} (hB : Blk w g 64 (fun j => if 0 ≤ j ∧ j < 0 + key.length then bcell (key.getD (j - 0) 0) else bcell 0) t) : Blk w g 64 (fun j => bcell (keyB key j)) t := hB.congr fun j _ => by
  rw [keyB_short h]
  by_cases h : j < key.length
  · rw [if_pos (by omega), Nat.sub_zero]
  · rw [if_neg (by omega), List.getD_eq_getElem?_getD, List.getElem?_eq_none (by omega)]
    rfl
theorem wpList_copy_none {ops : Array Oper} {rest : List Oper} {o : Oper} {a : Act} {w : World} {Q : Exit → Act → World → Prop} (hgd : o.guard = none) (d s : Operand)
    (ho : o.op = .call { callee := .builtin .copy, args := #[d, s], argTypes := #[40, 40] })
    {D A : Option Addr} {dLen dCap n c : Nat} (hd : a.eval d = .slice D dLen dCap) (hs : a.eval s = .slice A n c) (hn : Nat.min n dLen = 0)
    (h : wpList Tryd.prog ops Q rest (a.put o.dst (goInt 0)) w) : wpList Tryd.prog ops Q (o :: rest) a w := by
  have hrun := run_copy_none (P := Tryd.prog) w 40 40 o.type 5 D A dLen dCap n c under_bytes (by kernel_rfl) hn
  refine wpList_plain hgd fun _ hK => ?_
  unfold Oper.wp
  simp [execOp, ho, resolve, invoke, builtin, hd, hs, hrun, Result.andThen]
  exact hK _ _ h

set_option maxHeartbeats 1600000 in
theorem keyBlock_any (v : Value) (key : List UInt8) (w : World) (hv : Byt w v key) (hs : key.length ≤ 1000000) (hK : Kst 0 w) :
    Calls Tryd.prog 69 #[v] w fun e w' => e = .returned (.agg (fcells 64 fun j => bcell (keyB key j))) ∧ Below w.heap.size w w' := by
  obtain ⟨A, c, rfl⟩ := hv.shape
  have hcc := hv.at_.2.1
  have hcm := hv.at_.2.2.1
  unfold maxLen at hcm
  have hR0 : Blk ((w.alloc (.cells (fcells 64 fun _ => bcell 0) 96)).alloc (.cells (fcells 64 fun _ => bcell 0) 96)) w.heap.size 64 (fun _ => bcell 0) 96 := (Blk.new w _ _ _).alloc _
  have hB0 : Blk ((w.alloc (.cells (fcells 64 fun _ => bcell 0) 96)).alloc (.cells (fcells 64 fun _ => bcell 0) 96)) (w.heap.size + 1) 64 (fun _ => bcell 0) 96 := by
    have := Blk.new (w.alloc (.cells (fcells 64 fun _ => bcell 0) 96)) 64 (fun _ => bcell 0) 96
    simpa using this
  have hb0 : Below w.heap.size w ((w.alloc (.cells (fcells 64 fun _ => bcell 0) 96)).alloc (.cells (fcells 64 fun _ => bcell 0) 96)) := ((Below.refl _ _).alloc (Nat.le_refl _) _).alloc (by simp) _
  have HZ0 := hid (show ((w.alloc (.cells (fcells 64 fun _ => bcell 0) 96)).alloc (.cells (fcells 64 fun _ => bcell 0) 96)).heap.size = w.heap.size + 1 + 1 by simp)
  have HR0 := hid hR0
  have HB0 := hid hB0
  have HKE := hid hs
  clear hR0 hB0
  by_cases hlong : 64 < key.length
  · have hq : (64 : Int) < (key.length : Int) := by omega
    go_enter Tryd.func69, Tryd.ntmps69
    go_wp2_with (refine wpList_alloc_arr arrB rfl rfl ?_)
    generalize (w.alloc (.cells (fcells 64 fun _ => bcell 0) 96)).alloc (.cells (fcells 64 fun _ => bcell 0) 96) = w0 at *
    have hb1 : Below w.heap.size w (w0.alloc (.cells #[.slice A key.length c] 40)) := hb0.alloc hb0.size _
    have hnc := new_cell w0 #[.slice A key.length c] 40 0 _ rfl
    rw [HZ0.out] at hnc
    refine (of_one (.slice A key.length c) key (w.heap.size + 1 + 1) 1 _ (by simp [HZ0.out]) hnc (hv.below hb1) HKE.out (hK.below hb1)).mono ?_
    rintro e w1 ⟨rfl, hb2⟩
    have hR1 : Blk w1 w.heap.size 64 (fun _ => bcell 0) 96 := Blk.keep (HR0.out.alloc _) hb2
    have hB1 : Blk w1 (w.heap.size + 1) 64 (fun _ => bcell 0) 96 := Blk.keep (HB0.out.alloc _) hb2
    have hb1' := hb1.trans (hb2.mono hb1.size)
    clear hb1 hb2 hb0 HR0 HB0 hnc HZ0
    go_wp2_with (first
      | (refine wpList_alloc_arr arrH rfl rfl ?_)
      | (refine wpList_store_arr arrH rfl _ _ rfl rfl rfl (Blk.new w1 32 (fun _ => bcell 0) 27) (fun _ _ => rfl) ?_; intro w2 hg2 hH2 hs2))
    have hR2 := (hR1.alloc (.cells (fcells 32 fun _ => bcell 0) 27)).grown hg2 (fun e => by have := Option.some.inj e; have := hR1.lt; omega)
    have hB2 := (hB1.alloc (.cells (fcells 32 fun _ => bcell 0) 27)).grown hg2 (fun e => by have := Option.some.inj e; have := hB1.lt; omega)
    have hb2' := (hb1'.alloc hb1'.size (.cells (fcells 32 fun _ => bcell 0) 27)).grown hg2 (by have := hb1'.size; simp; omega) (fun k hk => by injection hk; have := hb1'.size; omega)
    have hv2 := byt_blk hH2 (by unfold maxLen; omega)
    obtain ⟨H, HH⟩ : ∃ H : Nat, Hid (w1.heap.size = H) := ⟨_, hid rfl⟩
    rw [HH.out] at hv2 ⊢
    clear hR1 hB1 hb1' hg2 hH2 hs2
    go_still_tail 2, (by kernel_rfl)
    change wpList _ _ _ _ _ w2.drew
    refine wpList_copy_blk (k := 32) rfl (.tmp 11) (.tmp 12) rfl rfl rfl (w := w2.drew) hv2 hB2.drew (by rw [hl_length]; rfl) (by omega) (by omega) ?_
    intro w4 hg4 hB4 hs4
    have hB5 : Blk w4 (w.heap.size + 1) 64 (fun j => bcell (keyB key j)) 96 := hB4.congr fun j hj => by
      rw [keyB_long hlong]
      by_cases h : j < 32
      · rw [if_pos (by omega), if_pos h, Nat.sub_zero, hl_getD _ _ h]
      · rw [if_neg (by omega), if_neg h]
    have hR4 : Blk w4 w.heap.size 64 (fun _ => bcell 0) 96 := Blk.grown (w := w2.drew) hR2 hg4 (fun e => by have := Option.some.inj e; omega)
    have hb4' : Below w.heap.size w w4 := below_into (w := w2.drew) hb2'.drew (g := w.heap.size + 1) (by omega) hg4 hb2'.size
    clear hB4 hg4 hs4 hR2 hB2 hb2' hv2
    go_wp2_with (first
      | (refine wpList_load_arr arrB rfl _ rfl rfl hB5 ?_)
      | (refine wpList_store_arr arrB rfl _ _ rfl rfl rfl hR4 (fun _ _ => rfl) ?_; intro w9 hg9 hA9 hs9))
    refine bodyPost_ret (arrB.result rfl _ _ rfl hA9) rfl ⟨rfl, ?_⟩
    exact below_into hb4' (g := w.heap.size) (by omega) hg9 hb4'.size
  · have hq : ¬ (64 : Int) < (key.length : Int) := by omega
    by_cases h0 : key.length = 0
    · have hnil : key = [] := List.eq_nil_of_length_eq_zero h0
      have HN := hid hnil
      have hB5 : Blk ((w.alloc (.cells (fcells 64 fun _ => bcell 0) 96)).alloc (.cells (fcells 64 fun _ => bcell 0) 96)) (w.heap.size + 1) 64 (fun j => bcell (keyB key j)) 96 := HB0.out.congr fun j hj => by
        rw [keyB_short hlong, hnil]
        rfl
      have HB5 := hid hB5
      have hmin : Nat.min key.length 64 = 0 := by rw [h0]; rfl
      have HM := hid hmin
      clear hnil hB5 hmin h0 hq hlong
      have hq : ¬ (64 : Int) < (key.length : Int) := by rw [HN.out]; decide
      go_enter Tryd.func69, Tryd.ntmps69
      go_wp2_with (first
        | (refine wpList_alloc_arr arrB rfl rfl ?_)
        | (refine wpList_copy_none rfl (.tmp 15) (.tmp 16) rfl rfl rfl HM.out ?_)
        | (refine wpList_load_arr arrB rfl _ rfl rfl HB5.out ?_)
        | (refine wpList_store_arr arrB rfl _ _ rfl rfl rfl HR0.out (fun _ _ => rfl) ?_; intro w9 hg9 hA9 hs9))
      refine bodyPost_ret (arrB.result rfl _ _ rfl hA9) rfl ⟨rfl, ?_⟩
      exact below_into hb0 (g := w.heap.size) (by omega) hg9 hb0.size
    · have hm : key.length ≤ 64 := by omega
      have hmin : key.length = Nat.min key.length 64 := (Nat.min_eq_left hm).symm
      have HM := hid hmin
      have HP := hid (show 0 < key.length by omega)
      have HL := hid hm
      have HV := hid (hv.below hb0)
      have HQ := hid hlong
      clear hmin hm h0 hv hlong
      go_enter Tryd.func69, Tryd.ntmps69
      go_wp2_with (first
        | (refine wpList_alloc_arr arrB rfl rfl ?_)
        | (refine wpList_copy_blk (k := key.length) rfl (.tmp 15) (.tmp 16) rfl rfl rfl HV.out HB0.out HM.out HP.out (by have := HL.out; omega) ?_; intro w4 hg4 hB4 hs4; have hB5 := keyB_cells HQ.out hB4; have hR4 := HR0.out.grown hg4 (fun e => by have := Option.some.inj e; omega))
        | (refine wpList_load_arr arrB rfl _ rfl rfl hB5 ?_)
        | (refine wpList_store_arr arrB rfl _ _ rfl rfl rfl hR4 (fun _ _ => rfl) ?_; intro w9 hg9 hA9 hs9))
      have hb4' := below_into hb0 (g := w.heap.size + 1) (by omega) hg4 hb0.size
      refine bodyPost_ret (arrB.result rfl _ _ rfl hA9) rfl ⟨rfl, ?_⟩
      exact below_into hb4' (g := w.heap.size) (by omega) hg9 hb4'.size
end Go.Proofs.YthgdgkdnidjdgaaDoor

/-
  tithingref03.Block gives a key's block.
-/
namespace Go.Proofs.YthgdgkdnidjdgaaDoor
set_option maxRecDepth 20000
open Go.RowKit

/-- What of a block has been written behind i bytes. -/
theorem upto_set (f : Nat → UInt8) (i j : Nat) (v : Value) (hv : v = bcell (f i)) : (if j = i then v else bcell (if j < i then f j else 0)) = bcell (if j < i + 1 then f j else 0) := by
  by_cases e : j = i
  · subst e
    rw [if_pos rfl, if_pos (by omega), hv]
  · rw [if_neg e]
    by_cases h : j < i
    · rw [if_pos h, if_pos (by omega)]
    · rw [if_neg h, if_neg (by omega)]

theorem two_blocks {w w1 : World}
    (hg1 : ((w.alloc (.cells (fcells 64 fun _ => bcell 0) 96)).alloc (.cells (fcells 64 fun _ => bcell 0) 96)).grownBy w1 (some (w.alloc (.cells (fcells 64 fun _ => bcell 0) 96)).heap.size))
    (hB1 : Blk w1 (w.alloc (.cells (fcells 64 fun _ => bcell 0) 96)).heap.size 64 (fun _ => bcell 0) 96)
    (hs1 : w1.heap.size = ((w.alloc (.cells (fcells 64 fun _ => bcell 0) 96)).alloc (.cells (fcells 64 fun _ => bcell 0) 96)).heap.size) :
    Blk w1 w.heap.size 64 (fun _ => bcell 0) 96 ∧ Blk w1 (w.heap.size + 1) 64 (fun _ => bcell 0) 96 ∧ Below w.heap.size w w1 ∧ w1.heap.size = w.heap.size + 1 + 1 := by
  have e : (w.alloc (.cells (fcells 64 fun _ => bcell 0) 96)).heap.size = w.heap.size + 1 := by simp
  rw [e] at hg1 hB1
  refine ⟨((Blk.new w _ _ _).alloc _).grown hg1 (fun e => by have := Option.some.inj e; omega), hB1, ?_, by rw [hs1]; simp⟩
  exact below_into (((Below.refl _ _).alloc (Nat.le_refl _) _).alloc (by simp) _) (g := w.heap.size + 1) (by omega) hg1 (by simp; omega)

set_option maxHeartbeats 3200000 in
theorem refKey_any (v : Value) (key : List UInt8) (w : World) (hv : Byt w v key) (hs : key.length ≤ 1000000) (hK : Kst 1 w) :
    Calls Tryd.prog 80 #[v] w fun e w' => e = .returned (.agg (fcells 64 fun j => bcell (keyB key j))) ∧ Below w.heap.size w w' := by
  obtain ⟨A, c, rfl⟩ := hv.shape
  have hcc := hv.at_.2.1
  have hcm := hv.at_.2.2.1
  unfold maxLen at hcm
  have HKE := hid hs
  go_enter Tryd.func80, Tryd.ntmps80
  by_cases hlong : 64 < key.length
  · have hq : (64 : Int) < (key.length : Int) := by omega
    go_wp2_with (first
      | (refine wpList_alloc_arr arrB rfl rfl ?_)
      | (refine wpList_zero_arr arrB rfl rfl ?_)
      | (refine wpList_store_arr arrB rfl _ _ rfl rfl rfl (Blk.new _ 64 (fun _ => bcell 0) 96) (fun _ _ => rfl) ?_; intro w1 hg1 hB1 hs1))
    obtain ⟨hR, hB, hb, hz⟩ := two_blocks hg1 hB1 hs1
    clear hg1 hB1 hs1
    have HZ := hid hz
    clear hz
    refine (refOf_any _ key w1 (hv.below hb) HKE.out (hK.below hb)).mono ?_
    rintro e w2 ⟨rfl, hb2⟩
    have hR2 := hR.keep hb2
    have hB2 := hB.keep hb2
    have hb2' := hb.trans (hb2.mono hb.size)
    clear hR hB hb hb2
    go_wp2_with (first
      | (refine wpList_alloc_arr arrH rfl rfl ?_)
      | (refine wpList_store_arr arrH rfl _ _ rfl rfl rfl (Blk.new w2 32 (fun _ => bcell 0) 27) (fun _ _ => rfl) ?_; intro w3 hg3 hH3 hs3))
    have hR3 := (hR2.alloc (.cells (fcells 32 fun _ => bcell 0) 27)).grown hg3 (fun e => by have := Option.some.inj e; have := hR2.lt; omega)
    have hB3 := (hB2.alloc (.cells (fcells 32 fun _ => bcell 0) 27)).grown hg3 (fun e => by have := Option.some.inj e; have := hB2.lt; omega)
    have hb3 := (hb2'.alloc hb2'.size (.cells (fcells 32 fun _ => bcell 0) 27)).grown hg3 (by have := hb2'.size; simp; omega) (fun k hk => by injection hk; have := hb2'.size; omega)
    have hBlt := hB2.lt
    obtain ⟨H, HH⟩ : ∃ H : Nat, Hid (w2.heap.size = H) := ⟨_, hid rfl⟩
    obtain ⟨G, HG⟩ : ∃ G : Nat, Hid (w.heap.size = G) := ⟨_, hid rfl⟩
    rw [HH.out] at hH3 hBlt ⊢
    rw [HG.out] at hR3 hB3 hb3 hBlt ⊢
    have hs4 := hb3.size
    have hB4 : Blk w3 (G + 1) 64 (fun j => bcell (if j < 0 then keyB key j else 0)) 96 := hB3.congr fun j _ => by rw [if_neg (by omega)]
    clear hR2 hB2 hb2' hg3 hs3 hB3
    go_wp2_with fail
    go_loopw [5] (fun si wr => ∃ i : Nat, i ≤ 32 ∧ si = .int .i64 (i : Int) ∧ Below G w wr ∧ Blk wr H 32 (fun j => bcell (sumS key j)) 27 ∧ Blk wr G 64 (fun _ => bcell 0) 96 ∧ Blk wr (G + 1) 64 (fun j => bcell (if j < i then keyB key j else 0)) 96) (fun si _ => 32 - (intOf si).toNat)
    case atStart => exact ⟨0, Nat.zero_le _, rfl, hb3, hH3, hR3, hB4⟩
    case round =>
      clear hb3 hH3 hR3 hB4
      obtain ⟨i, hi, rfl, hbw, hH, hR, hB⟩ := hrel
      by_cases hlt : i < 32
      · have hi32 : (i : Int) < 32 := by omega
        have hi64 : (i : Int) < 64 := by omega
        have k1 := hH.cell (i := i) hlt
        have k2 := hB.cell (i := i) (by omega)
        have f2 := hB.free i
        have ek : bcell (sumS key i) = bcell (keyB key i) := by rw [keyB_long hlong, if_pos hlt]
        unfold bcell at k1
        have EK := hid ek
        clear ek
        go_wp2_with fail
        go_roundw
        case rel =>
          refine ⟨i + 1, by omega, by go_num, below_set hbw (g := G + 1) (by omega) _ _, hH.apart _ _ (by omega), hR.apart _ _ (by omega), (hB.set (i := i) (by omega) _).congr fun j _ => ?_⟩
          exact upto_set (keyB key) i j _ EK.out
        case measure => simp [intOf]; omega
      · have hi32 : ¬ (i : Int) < 32 := by omega
        have hB2 : Blk wr (G + 1) 64 (fun j => bcell (keyB key j)) 96 := hB.congr fun j hj => by
          by_cases h : j < i
          · rw [if_pos h]
          · rw [if_neg h, keyB_long hlong, if_neg (by omega)]
        clear hB
        go_wp2_with (first
          | (refine wpList_load_arr arrB rfl _ rfl rfl hB2 ?_)
          | (refine wpList_store_arr arrB rfl _ _ rfl rfl rfl hR (fun _ _ => rfl) ?_; intro w9 hg9 hA9 hs9))
        refine bodyPost_ret (arrB.result rfl _ _ rfl hA9) rfl ⟨rfl, ?_⟩
        rw [HG.out]
        exact below_into hbw (g := G) (by omega) hg9 (by have := hbw.size; have := HG.out; omega)
  · have hq : ¬ (64 : Int) < (key.length : Int) := by omega
    obtain ⟨L, HL⟩ : ∃ L : Nat, Hid (key.length = L) := ⟨_, hid rfl⟩
    rw [HL.out] at hq hcc hv ⊢
    have hL64 : L ≤ 64 := by omega
    go_wp2_with (first
      | (refine wpList_alloc_arr arrB rfl rfl ?_)
      | (refine wpList_zero_arr arrB rfl rfl ?_)
      | (refine wpList_store_arr arrB rfl _ _ rfl rfl rfl (Blk.new _ 64 (fun _ => bcell 0) 96) (fun _ _ => rfl) ?_; intro w1 hg1 hB1 hs1))
    obtain ⟨hR, hB, hb, hz⟩ := two_blocks hg1 hB1 hs1
    clear hg1 hB1 hs1
    have HZ := hid hz
    clear hz
    obtain ⟨G, HG⟩ : ∃ G : Nat, Hid (w.heap.size = G) := ⟨_, hid rfl⟩
    have HV := hid hv
    rw [HG.out] at hR hB hb ⊢
    have hB4 : Blk w1 (G + 1) 64 (fun j => bcell (if j < 0 then keyB key j else 0)) 96 := hB.congr fun j _ => by rw [if_neg (by omega)]
    clear hB hv
    go_wp2_with fail
    go_loopw [6] (fun si wr => ∃ i : Nat, i ≤ L ∧ si = .int .i64 (i : Int) ∧ Below G w wr ∧ Blk wr G 64 (fun _ => bcell 0) 96 ∧ Blk wr (G + 1) 64 (fun j => bcell (if j < i then keyB key j else 0)) 96) (fun si _ => L - (intOf si).toNat)
    case atStart => exact ⟨0, Nat.zero_le _, rfl, hb, hR, hB4⟩
    case round =>
      clear hb hR hB4
      obtain ⟨i, hi, rfl, hbw, hR, hB⟩ := hrel
      by_cases hlt : i < L
      · have hi64 : (i : Int) < 64 := by omega
        have hiL : (i : Int) < (L : Int) := by omega
        have hv2 : Byt wr (.slice A L c) key := HV.out.below (by rw [HG.out]; exact hbw)
        obtain ⟨b, off, rfl, hbl, hcl⟩ := hv2.at_.2.2.2 (by have := HL.out; omega)
        have hiL2 : i < key.length := by have := HL.out; omega
        have k1 := hcl i hiL2
        have k2 := hB.cell (i := i) (by omega)
        have f2 := hB.free i
        have ek : bcell key[i] = bcell (keyB key i) := by rw [keyB_short hlong, List.getD_eq_getElem?_getD, List.getElem?_eq_getElem hiL2]; rfl
        unfold bcell at k1
        have EK := hid ek
        clear ek hcl
        go_wp2_with fail
        go_roundw
        case rel =>
          refine ⟨i + 1, by omega, by go_num, below_set hbw (g := G + 1) (by omega) _ _, hR.apart _ _ (by omega), (hB.set (i := i) (by omega) _).congr fun j _ => ?_⟩
          exact upto_set (keyB key) i j _ EK.out
        case measure => simp [intOf]; omega
      · have hiL : ¬ (i : Int) < (L : Int) := by omega
        have hB2 : Blk wr (G + 1) 64 (fun j => bcell (keyB key j)) 96 := hB.congr fun j hj => by
          by_cases h : j < i
          · rw [if_pos h]
          · rw [if_neg h, keyB_short hlong, List.getD_eq_getElem?_getD, List.getElem?_eq_none (by have := HL.out; omega)]
            rfl
        clear hB
        go_wp2_with (first
          | (refine wpList_load_arr arrB rfl _ rfl rfl hB2 ?_)
          | (refine wpList_store_arr arrB rfl _ _ rfl rfl rfl hR (fun _ _ => rfl) ?_; intro w9 hg9 hA9 hs9))
        refine bodyPost_ret (arrB.result rfl _ _ rfl hA9) rfl ⟨rfl, ?_⟩
        rw [HG.out]
        exact below_into hbw (g := G) (by omega) hg9 (by have := hbw.size; have := HG.out; omega)
end Go.Proofs.YthgdgkdnidjdgaaDoor

/-
  tithingref03.Of gives the sum with a key.
-/
namespace Go.Proofs.YthgdgkdnidjdgaaDoor
set_option maxRecDepth 20000
open Go.RowKit

theorem xor_byte (c x : UInt8) {y z r : Int} (hy : (c.toNat : Int) = y) (hz : (x.toNat : Int) = z) (hr : ((c ^^^ x).toNat : Int) = r) : bits BinOp.xor IntKind.u8 y z = r := by
  rw [← hy, ← hz, ← hr]
  exact bv_xor c x

/-- Two rows of the call's own lie apart. -/
def Apart (v u : Value) : Prop := ∀ k, v.ownBlock = some k → u.ownBlock ≠ some k
theorem Apart.grow {B : Nat} {w : World} {v v' u : Value} {l : List UInt8} {N : Nat} (h : Apart v u) (hu : Own B w u l) (hN : w.heap.size ≤ N) (hv : v'.ownBlock = v.ownBlock ∨ v'.ownBlock = some N) : Apart v' u := fun k hk e => by
  rcases hv with hv | hv
  · rw [hv] at hk
    exact h k hk e
  · rw [hv] at hk
    have h1 := (World.ownsRow.lt hu k e).2
    injection hk with hk
    omega
theorem Apart.swap {v u : Value} (h : Apart v u) : Apart u v := fun k hk e => h k e hk
theorem Apart.keep {B : Nat} {w w' : World} {v u : Value} {l : List UInt8} (h : Apart v u) (hu : Own B w u l) (hg : w.grownBy w' v.ownBlock) : Own B w' u l :=
  hu.keep fun b hb e => hg.block b hb (fun e2 => h b e2.symm e)

set_option maxHeartbeats 3200000 in
theorem refMac_any (v1 v2 : Value) (key text : List UInt8) (w : World) (hv1 : Byt w v1 key) (hv2 : Byt w v2 text) (hs1 : key.length ≤ 1000000) (hs2 : text.length ≤ 100000) (hK : Kst 1 w) :
    Calls Tryd.prog 73 #[v1, v2] w fun e w' => e = .returned (.agg (fcells 32 fun j => bcell (macS key text j))) ∧ Below w.heap.size w w' := by
  go_enter Tryd.func73, Tryd.ntmps73
  go_wp2_with (refine wpList_alloc_arr arrH rfl rfl ?_)
  have hb0 : Below w.heap.size w (w.alloc (.cells (fcells 32 fun _ => bcell 0) 27)) := (Below.refl _ _).alloc (Nat.le_refl _) _
  have hH0 : Blk (w.alloc (.cells (fcells 32 fun _ => bcell 0) 27)) w.heap.size 32 (fun _ => bcell 0) 27 := Blk.new w _ _ _
  generalize w.alloc (.cells (fcells 32 fun _ => bcell 0) 27) = w0 at *
  refine (refKey_any _ key w0 (hv1.below hb0) hs1 (hK.below hb0)).mono ?_
  rintro e w1 ⟨rfl, hb1⟩
  have hb1' := hb0.trans (hb1.mono hb0.size)
  have hH1 := hH0.keep hb1
  clear hb0 hH0 hb1
  go_wp2_with (first
    | (refine wpList_alloc_arr arrB rfl rfl ?_)
    | (refine wpList_store_arr arrB rfl _ _ rfl rfl rfl (Blk.new w1 64 (fun _ => bcell 0) 96) (fun _ _ => rfl) ?_; intro w2 hg2 hB2 hs2))
  have hH2 := (hH1.alloc (.cells (fcells 64 fun _ => bcell 0) 96)).grown hg2 (fun e => by have := Option.some.inj e; have := hH1.lt; omega)
  have hb2 := (hb1'.alloc hb1'.size (.cells (fcells 64 fun _ => bcell 0) 96)).grown hg2 (by have := hb1'.size; simp; omega) (fun k hk => by injection hk; have := hb1'.size; omega)
  have hRB : w.heap.size < w1.heap.size := hH1.lt
  obtain ⟨B, HB⟩ : ∃ B : Nat, Hid (w1.heap.size = B) := ⟨_, hid rfl⟩
  obtain ⟨R, HR⟩ : ∃ R : Nat, Hid (w.heap.size = R) := ⟨_, hid rfl⟩
  rw [HB.out] at hB2 hRB ⊢
  rw [HR.out] at hH2 hb2 hRB ⊢
  have hBl := hB2.lt
  have ho6 : Own (B + 1) ((w2.alloc (.cells #[] 5)).alloc (.cells #[] 5)) (.slice (some ⟨w2.heap.size, 0, none⟩) 0 0) [] := (World.ownsRow_made w2 #[] 0 (by omega) (Nat.zero_le _) rfl : Own (B + 1) (w2.alloc (.cells #[] 5)) _ []).alloc _
  have ho7 : Own (B + 1) ((w2.alloc (.cells #[] 5)).alloc (.cells #[] 5)) (.slice (some ⟨w2.heap.size + 1, 0, none⟩) 0 0) [] := by
    have : Own (B + 1) ((w2.alloc (.cells #[] 5)).alloc (.cells #[] 5)) (.slice (some ⟨(w2.alloc (.cells #[] 5)).heap.size, 0, none⟩) 0 0) [] := World.ownsRow_made (w2.alloc (.cells #[] 5)) #[] 0 (by simp; omega) (Nat.zero_le _) rfl
    simpa using this
  have hB4 : Blk ((w2.alloc (.cells #[] 5)).alloc (.cells #[] 5)) B 64 (fun j => bcell (keyB key j)) 96 := (hB2.alloc _).alloc _
  have hH4 : Blk ((w2.alloc (.cells #[] 5)).alloc (.cells #[] 5)) R 32 (fun _ => bcell 0) 27 := (hH2.alloc _).alloc _
  have hb4 : Below R w ((w2.alloc (.cells #[] 5)).alloc (.cells #[] 5)) := (hb2.alloc (by omega) _).alloc (by simp; omega) _
  have hap : Apart (.slice (some ⟨w2.heap.size, 0, none⟩) 0 0) (.slice (some ⟨w2.heap.size + 1, 0, none⟩) 0 0) := fun k hk e => by
    simp [Value.ownBlock] at hk e
    omega
  have hsz : w2.heap.size = B + 1 := by rw [hs2, ← HB.out]; simp
  rw [hsz] at ho6 ho7 hap
  clear hg2 hs2 hB2 hH2 hb2 hH1 hb1' hsz
  go_wp2_with fail
  go_loopw [6, 7, 8] (fun v6 v7 si wr => ∃ i : Nat, i ≤ 64 ∧ si = .int .i64 (i : Int) ∧ Below R w wr ∧ Blk wr R 32 (fun _ => bcell 0) 27 ∧ Blk wr B 64 (fun j => bcell (keyB key j)) 96 ∧ Own (B + 1) wr v6 (hl i fun j => keyB key j ^^^ 54) ∧ Own (B + 1) wr v7 (hl i fun j => keyB key j ^^^ 92) ∧ Hid (Apart v6 v7)) (fun _ _ si _ => 64 - (intOf si).toNat)
  case atStart => exact ⟨0, Nat.zero_le _, rfl, hb4, hH4, hB4, ho6, ho7, hid hap⟩
  case round =>
    clear hb4 hH4 hB4 ho6 ho7 hap
    obtain ⟨i, hi, rfl, hbw, hH, hB, ho6, ho7, HAP⟩ := hrel
    have hBl2 := hB.lt
    by_cases hlt : i < 64
    · have hi64 : (i : Int) < 64 := by omega
      have kb := hB.cell (i := i) hlt
      obtain ⟨y, HY⟩ : ∃ y : Int, Hid (((keyB key i).toNat : Int) = y) := ⟨_, hid rfl⟩
      obtain ⟨r1, HR1⟩ : ∃ y : Int, Hid (((keyB key i ^^^ 54).toNat : Int) = y) := ⟨_, hid rfl⟩
      obtain ⟨r2, HR2⟩ : ∃ y : Int, Hid (((keyB key i ^^^ 92).toNat : Int) = y) := ⟨_, hid rfl⟩
      have q1 := xor_byte (keyB key i) 54 (z := 54) HY.out rfl HR1.out
      have q2 := xor_byte (keyB key i) 92 (z := 92) HY.out rfl HR2.out
      unfold bcell at kb
      rw [HY.out] at kb
      have hl1 : (hl i fun j => keyB key j ^^^ 54).length + ([keyB key i ^^^ 54] : List UInt8).length ≤ 140737488355328 := by rw [hl_length, List.length_singleton]; omega
      have hl2 : (hl i fun j => keyB key j ^^^ 92).length + ([keyB key i ^^^ 92] : List UInt8).length ≤ 140737488355328 := by rw [hl_length, List.length_singleton]; omega
      have hs1' : B + 1 ≤ (wr.alloc (.cells #[.int .u8 r1] 5)).heap.size := by simp; omega
      go_wp2_with (first
        | (at_builtin; refine wpList_append_byt rfl (.tmp 19) (.tmp 24) rfl rfl rfl (ho6.alloc _) (byt_one _ _ (keyB key i ^^^ 54) HR1.out.symm) hl1 hs1' ?_; intro v6' w6 hown6 hg6 hv6; have ho7' := HAP.out.keep (ho7.alloc (.cells #[.int .u8 r1] 5)) hg6; have hB6 := (hB.alloc (.cells #[.int .u8 r1] 5)).grown hg6 (fun e => by have := (World.ownsRow.lt ho6 B e).1; omega); have kb6 := hB6.cell (i := i) hlt; rw [show bcell (keyB key i) = .int .u8 y from by unfold bcell; rw [HY.out]] at kb6; have hs6 := hg6.size; have hs2' : B + 1 ≤ (w6.alloc (.cells #[.int .u8 r2] 5)).heap.size := Nat.le_trans hs1' (Nat.le_trans hs6 (by simp)))
        | (at_builtin; refine wpList_append_byt rfl (.tmp 26) (.tmp 31) rfl rfl rfl (ho7'.alloc _) (byt_one _ _ (keyB key i ^^^ 92) HR2.out.symm) hl2 hs2' ?_; intro v7' w7 hown7 hg7 hv7))
      have hap6 : Apart v6' u7 := HAP.out.grow (ho7.alloc (.cells #[.int .u8 r1] 5)) (Nat.le_refl _) hv6
      have hown6' : Own (B + 1) w7 v6' ((hl i fun j => keyB key j ^^^ 54) ++ [keyB key i ^^^ 54]) := hap6.swap.keep (hown6.alloc (.cells #[.int .u8 r2] 5)) hg7
      have hap7 : Apart v6' v7' := (hap6.swap.grow (hown6.alloc (.cells #[.int .u8 r2] 5)) (Nat.le_refl _) hv7).swap
      have hb6 : Below R w w6 := (hbw.alloc (by omega) _).grown hg6 (by simp; omega) (fun k hk => by have := (World.ownsRow.lt ho6 k hk).1; omega)
      have hb7 : Below R w w7 := (hb6.alloc (by simp at hs6; omega) _).grown hg7 (by simp at hs6 ⊢; omega) (fun k hk => by have := (World.ownsRow.lt ho7 k hk).1; omega)
      have hH6 := (hH.alloc (.cells #[.int .u8 r1] 5)).grown hg6 (fun e => by have := (World.ownsRow.lt ho6 R e).1; omega)
      have hH7 := (hH6.alloc (.cells #[.int .u8 r2] 5)).grown hg7 (fun e => by have := (World.ownsRow.lt ho7 R e).1; omega)
      have hB7 := (hB6.alloc (.cells #[.int .u8 r2] 5)).grown hg7 (fun e => by have := (World.ownsRow.lt ho7 B e).1; omega)
      rw [← hl_succ i fun j => keyB key j ^^^ 54] at hown6'
      rw [← hl_succ i fun j => keyB key j ^^^ 92] at hown7
      clear hg6 hg7 hv6 hv7 hown6 ho7' hB6 kb6 hs6 hs2' hap6 hb6 hH6 hl1 hl2 hs1' q1 q2
      go_roundw
      case rel => exact ⟨i + 1, by omega, by go_num, hb7, hH7, hB7, hown6', hown7, hid hap7⟩
      case measure => simp [intOf]; omega
    · have hi64 : ¬ (i : Int) < 64 := by omega
      obtain rfl : i = 64 := by omega
      have hl1 : (hl 64 fun j => keyB key j ^^^ 54).length + text.length ≤ 140737488355328 := by rw [hl_length]; omega
      have hs1' : B + 1 ≤ wr.heap.size := hBl2
      have hvt : Byt wr v2 text := hv2.below (by rw [HR.out]; exact hbw)
      have hlen : ((hl 64 fun j => keyB key j ^^^ 54) ++ text).length ≤ 1000000 := by rw [List.length_append, hl_length]; omega
      have hbwr : Below w.heap.size w wr := by rw [HR.out]; exact hbw
      go_wp2_with (at_builtin; refine wpList_append_byt rfl (.tmp 33) (.tmp 34) rfl rfl rfl ho6 hvt hl1 hs1' ?_; intro v6' w6 hown6 hg6 hv6)
      have ho7' := HAP.out.keep ho7 hg6
      have hb6 : Below R w w6 := hbw.grown hg6 (by omega) (fun k hk => by have := (World.ownsRow.lt ho6 k hk).1; omega)
      have hH6 := hH.grown hg6 (fun e => by have := (World.ownsRow.lt ho6 R e).1; omega)
      refine (refOf_any v6' _ w6 hown6.byt hlen (hK.below (by rw [HR.out]; exact hb6))).mono ?_
      rintro e w7 ⟨rfl, hb7⟩
      have ho7'' := ho7'.below hb7
      have hH7 := hH6.keep hb7
      have hs6 := hg6.size
      have hb7' := hb6.trans (hb7.mono (by omega))
      have hs7 := hb7.size
      clear hg6 hv6 hown6 ho7' hb6 hH6 hb7 ho6 hB ho7 hH HAP hvt hl1 hbwr hlen
      go_wp2_with (first
        | (refine wpList_alloc_arr arrH rfl rfl ?_)
        | (refine wpList_store_arr arrH rfl _ _ rfl rfl rfl (Blk.new w7 32 (fun _ => bcell 0) 27) (fun _ _ => rfl) ?_; intro w8 hg8 hS8 hs8))
      have ho8 : Own (B + 1) w8 u7 (hl 64 fun j => keyB key j ^^^ 92) := (ho7''.alloc _).keep fun b hb e => hg8.block b hb (fun e2 => by have h1 := (World.ownsRow.lt ho7'' b e).2; have := Option.some.inj e2; omega)
      have hne8 : ∀ k, u7.ownBlock = some k → k ≠ w7.heap.size := fun k hk => by have := (World.ownsRow.lt ho7'' k hk).2; omega
      have hH8 := (hH7.alloc (.cells (fcells 32 fun _ => bcell 0) 27)).grown hg8 (fun e => by have := Option.some.inj e; have := hH7.lt; omega)
      have hb8 : Below R w w8 := (hb7'.alloc (by omega) (.cells (fcells 32 fun _ => bcell 0) 27)).grown hg8 (by simp; omega) (fun k hk => by injection hk; omega)
      obtain ⟨SB, HSB⟩ : ∃ g : Nat, Hid (w7.heap.size = g) := ⟨_, hid rfl⟩
      obtain ⟨σ, HSG⟩ : ∃ f : Nat → UInt8, Hid (sumS ((hl 64 fun j => keyB key j ^^^ 54) ++ text) = f) := ⟨_, hid rfl⟩
      rw [HSB.out, HSG.out] at hS8
      rw [HSB.out] at hne8 ⊢
      have hsb : B + 1 ≤ SB := by have := HSB.out; omega
      have ho8' : Own (B + 1) w8 u7 ((hl 64 fun j => keyB key j ^^^ 92) ++ hl 0 σ) := by
        have e : hl 0 σ = [] := rfl
        rw [e, List.append_nil]
        exact ho8
      have hne8' := hid hne8
      clear ho7'' hH7 hg8 hs8 hb7' hs6 hs7 ho8 hne8
      go_wp2_with fail
      go_loopw [7, 10] (fun v7 si wr => ∃ i : Nat, i ≤ 32 ∧ si = .int .i64 (i : Int) ∧ Below R w wr ∧ Blk wr R 32 (fun _ => bcell 0) 27 ∧ Blk wr SB 32 (fun j => bcell (σ j)) 27 ∧ Own (B + 1) wr v7 ((hl 64 fun j => keyB key j ^^^ 92) ++ hl i σ) ∧ Hid (∀ k, v7.ownBlock = some k → k ≠ SB)) (fun _ si _ => 32 - (intOf si).toNat)
      case atStart => exact ⟨0, Nat.zero_le _, rfl, hb8, hH8, hS8, ho8', hne8'⟩
      case round =>
        clear hb8 hH8 hS8 ho8' hne8'
        obtain ⟨i, hi, rfl, hbw, hH, hS, ho7, HNE⟩ := hrel
        have hSl := hS.lt
        by_cases hlt : i < 32
        · have hi32 : (i : Int) < 32 := by omega
          have ks := hS.cell (i := i) hlt
          unfold bcell at ks
          obtain ⟨y, HY⟩ : ∃ y : Int, Hid (((σ i).toNat : Int) = y) := ⟨_, hid rfl⟩
          rw [HY.out] at ks
          have hl1 : ((hl 64 fun j => keyB key j ^^^ 92) ++ hl i σ).length + ([σ i] : List UInt8).length ≤ 140737488355328 := by rw [List.length_append, hl_length, hl_length, List.length_singleton]; omega
          have hs1' : B + 1 ≤ (wr.alloc (.cells #[.int .u8 y] 5)).heap.size := by simp; omega
          go_wp2_with (at_builtin; refine wpList_append_byt rfl (.tmp 41) (.tmp 45) rfl rfl rfl (ho7.alloc _) (byt_one _ _ (σ i) HY.out.symm) hl1 hs1' ?_; intro v8 w9 hown9 hg9 hv9)
          have hb9 : Below R w w9 := (hbw.alloc (by omega) _).grown hg9 (by simp; omega) (fun k hk => by have := (World.ownsRow.lt ho7 k hk).1; omega)
          have hH9 := (hH.alloc (.cells #[.int .u8 y] 5)).grown hg9 (fun e => by have := (World.ownsRow.lt ho7 R e).1; omega)
          have hS9 := (hS.alloc (.cells #[.int .u8 y] 5)).grown hg9 (fun e => HNE.out SB e rfl)
          have hne9 : ∀ k, v8.ownBlock = some k → k ≠ SB := fun k hk => by
            rcases hv9 with e | e
            · rw [e] at hk
              exact HNE.out k hk
            · rw [e] at hk
              injection hk with hk
              simp at hk
              omega
          have HNE9 := hid hne9
          rw [List.append_assoc, ← hl_succ i σ] at hown9
          clear hg9 hv9 hl1 hs1' hne9
          go_roundw
          case rel => exact ⟨i + 1, by omega, by go_num, hb9, hH9, hS9, hown9, HNE9⟩
          case measure => simp [intOf]; omega
        · have hi32 : ¬ (i : Int) < 32 := by omega
          obtain rfl : i = 32 := by omega
          have hby := ho7.byt
          have hlen : ((hl 64 fun j => keyB key j ^^^ 92) ++ hl 32 σ).length ≤ 1000000 := by rw [List.length_append, hl_length, hl_length]; omega
          have hKr : Kst 1 wr := hK.below (by rw [HR.out]; exact hbw)
          clear hS ho7 HNE
          go_wp2_with fail
          refine (refOf_any _ _ wr hby hlen hKr).mono ?_
          rintro e w9 ⟨rfl, hb9⟩
          have hH9 := hH.keep hb9
          have hb9' := hbw.trans (hb9.mono (by omega))
          go_wp2_with (refine wpList_store_arr arrH rfl _ _ rfl rfl rfl hH9 (fun _ _ => rfl) ?_; intro wA hgA hAA hsA)
          rw [← HSG.out] at hAA
          refine bodyPost_ret (arrH.result rfl _ _ rfl hAA) rfl ⟨rfl, ?_⟩
          rw [HR.out]
          exact below_into hb9' (g := R) (Nat.le_refl _) hgA (by have := hb9'.size; have := HR.out; omega)
end Go.Proofs.YthgdgkdnidjdgaaDoor

/-
  mac.masked gives a block, each byte exclusive-ored with one.
-/
namespace Go.Proofs.YthgdgkdnidjdgaaDoor
set_option maxRecDepth 20000
open Go.RowKit

set_option maxHeartbeats 1600000 in
theorem masked_any (b : Nat → UInt8) (x : UInt8) (z : Int) (hz : z = (x.toNat : Int)) (w : World) :
    Calls Tryd.prog 70 #[.agg (fcells 64 fun j => bcell (b j)), .int .u8 z] w fun e w' => e = .returned (.agg (fcells 64 fun j => bcell (b j ^^^ x))) ∧ Below w.heap.size w w' := by
  have HZ := hid hz
  clear hz
  have hA0 : Blk ((w.alloc (.cells (fcells 64 fun j => bcell (b j)) 96)).alloc (.cells (fcells 64 fun _ => bcell 0) 96)) w.heap.size 64 (fun j => bcell (b j)) 96 := (Blk.new w _ _ _).alloc _
  have hR0 : Blk ((w.alloc (.cells (fcells 64 fun j => bcell (b j)) 96)).alloc (.cells (fcells 64 fun _ => bcell 0) 96)) (w.heap.size + 1) 64 (fun _ => bcell 0) 96 := by
    have := Blk.new (w.alloc (.cells (fcells 64 fun j => bcell (b j)) 96)) 64 (fun _ => bcell 0) 96
    simpa using this
  have hb0 : Below w.heap.size w ((w.alloc (.cells (fcells 64 fun j => bcell (b j)) 96)).alloc (.cells (fcells 64 fun _ => bcell 0) 96)) := ((Below.refl _ _).alloc (Nat.le_refl _) _).alloc (by simp) _
  have HA0 := hid hA0
  have HR0 := hid hR0
  clear hA0 hR0
  go_enter Tryd.func70, Tryd.ntmps70
  go_wp2_with (refine wpList_alloc_arr arrB rfl rfl ?_)
  generalize (w.alloc (.cells (fcells 64 fun j => bcell (b j)) 96)).alloc (.cells (fcells 64 fun _ => bcell 0) 96) = w0 at *
  obtain ⟨G, HG⟩ : ∃ g : Nat, Hid (w.heap.size = g) := ⟨_, hid rfl⟩
  have hA0 := HA0.out
  have hR0 := HR0.out
  rw [HG.out] at hA0 hR0 hb0 ⊢
  go_loopw [6] (fun si wr => ∃ i : Nat, i ≤ 64 ∧ si = .int .i64 (i : Int) ∧ Below G w wr ∧ Blk wr (G + 1) 64 (fun _ => bcell 0) 96 ∧ Blk wr G 64 (fun j => bcell (if j < i then b j ^^^ x else b j)) 96) (fun si _ => 64 - (intOf si).toNat)
  case atStart => exact ⟨0, Nat.zero_le _, rfl, hb0, hR0, hA0.congr fun j _ => by rw [if_neg (by omega)]⟩
  case round =>
    clear hA0 hR0 hb0
    obtain ⟨i, hi, rfl, hbw, hR, hA⟩ := hrel
    by_cases hlt : i < 64
    · have hi64 : (i : Int) < 64 := by omega
      have k1 := hA.cell (i := i) hlt
      have f1 := hA.free i
      rw [if_neg (show ¬ i < i by omega)] at k1
      unfold bcell at k1
      obtain ⟨y, HY⟩ : ∃ y : Int, Hid (((b i).toNat : Int) = y) := ⟨_, hid rfl⟩
      obtain ⟨r, HR⟩ : ∃ r : Int, Hid (((b i ^^^ x).toNat : Int) = r) := ⟨_, hid rfl⟩
      have hx := bv_xor (b i) x
      rw [HY.out, ← HZ.out, HR.out] at hx
      rw [HY.out] at k1
      go_wp2_with fail
      go_roundw
      case rel =>
        refine ⟨i + 1, by omega, by go_num, below_set hbw (g := G) (Nat.le_refl _) _ _, hR.apart _ _ (by omega), (hA.set (i := i) hlt _).congr fun j _ => ?_⟩
        by_cases e : j = i
        · subst e
          rw [if_pos rfl, if_pos (by omega), ← HR.out]
          rfl
        · rw [if_neg e]
          by_cases h : j < i
          · rw [if_pos h, if_pos (by omega)]
          · rw [if_neg h, if_neg (by omega)]
      case measure => simp [intOf]; omega
    · have hi64 : ¬ (i : Int) < 64 := by omega
      have hA2 : Blk wr G 64 (fun j => bcell (b j ^^^ x)) 96 := hA.congr fun j hj => by rw [if_pos (by omega)]
      clear hA
      go_wp2_with (first
        | (refine wpList_load_arr arrB rfl _ rfl rfl hA2 ?_)
        | (refine wpList_store_arr arrB rfl _ _ rfl rfl rfl hR (fun _ _ => rfl) ?_; intro w9 hg9 hA9 hs9))
      refine bodyPost_ret (arrB.result rfl _ _ rfl hA9) rfl ⟨rfl, ?_⟩
      rw [HG.out]
      exact below_into hbw (g := G + 1) (by omega) hg9 (by have := hbw.size; have := HG.out; omega)
end Go.Proofs.YthgdgkdnidjdgaaDoor

/-
  A statement that gives two blocks of 64 bytes from two calls: its allocations may come at any time. What is known of a world, as rules for the walk.
-/
namespace Go.Proofs.YthgdgkdnidjdgaaDoor
set_option maxRecDepth 20000
open Go.RowKit

theorem exec_alloc_B (r : Operand → Value) (dst : Option Tmp) (ty : TypeId) (pos : String) (after : Array Edge) (guard : Option (Nat × Bool)) (w : World) :
    Sem.run Tryd.prog (execOp r { dst := dst, op := .alloc 96, type := ty, pos := pos, after := after, guard := guard }) w = .ok (.value (.pointer (some ⟨w.heap.size, 0, none⟩))) (w.alloc (.cells (fcells 64 fun _ => bcell 0) 96)) := by
  unfold execOp
  simp only [Sem.run_bind, Instr.alloc, arrB.run_zero, newVar, newRow, run_newObj_alloc, Sem.run_pure, Result.andThen_ok, Value.cells]
theorem exec_store_hide (T : TypeId) (k : Nat) (r : Operand → Value) (x y : Operand) (dst : Option Tmp) (ty : TypeId) (pos : String) (after : Array Edge) (guard : Option (Nat × Bool)) (w : World) :
    Sem.run Tryd.prog (execOp r { dst := dst, op := .store (tyHide T k) x y, type := ty, pos := pos, after := after, guard := guard }) w = storeA (tyHide T k) (r x) (r y) w := rfl
theorem tyHide_store {T : TypeId} {k : Nat} (h : T = k) (x y : Operand) : Op.store k x y = Op.store (tyHide T k) x y := by
  unfold tyHide
  rw [h]

theorem size_drew (W : World) : W.drew.heap.size = W.heap.size := rfl
theorem size_alloc (W : World) (o : Obj) : (W.alloc o).heap.size = W.heap.size + 1 := by simp
/-- Block g is one of 64 bytes. -/
def Has (W : World) (g : Nat) : Prop := ∃ f, Blk W g 64 f 96
theorem Has.alloc (W : World) (o : Obj) (g : Nat) (h : Has W g) : Has (W.alloc o) g := by
  obtain ⟨f, h⟩ := h
  exact ⟨f, h.alloc o⟩
theorem Has.drew (W : World) (g : Nat) (h : Has W g) : Has W.drew g := h
theorem Has.new (W : World) : Has (W.alloc (.cells (fcells 64 fun _ => bcell 0) 96)) W.heap.size := ⟨_, Blk.new W _ _ _⟩
theorem Has.new2 (W : World) (o : Obj) : Has ((W.alloc o).alloc (.cells (fcells 64 fun _ => bcell 0) 96)) (W.heap.size + 1) := by
  have := Has.new (W.alloc o)
  rw [show (W.alloc o).heap.size = W.heap.size + 1 from by simp] at this
  exact this
theorem Has.keep {W W' : World} (hb : Below W.heap.size W W') (g : Nat) (h : Has W g) : Has W' g := by
  obtain ⟨f, h⟩ := h
  exact ⟨f, h.keep hb⟩
theorem Has.set (W : World) (k g : Nat) (f : Nat → Value) (h : Has W g) : Has (W.setRow k (fcells 64 f)) g := by
  obtain ⟨f0, h⟩ := h
  by_cases e : g = k
  · subst e
    exact ⟨f, setRow_heap W g _ _ _ _ h⟩
  · exact ⟨f0, (setRow_other W k g _ e).trans h⟩
theorem Has.newOld (W : World) (o : Obj) : Has ((W.alloc (.cells (fcells 64 fun _ => bcell 0) 96)).alloc o) W.heap.size := Has.alloc _ o _ (Has.new W)
theorem Has.setAlloc (W : World) (o : Obj) (k g : Nat) (f : Nat → Value) (h : Has W g) : Has ((W.alloc o).setRow k (fcells 64 f)) g := Has.set _ k g f (Has.alloc W o g h)
theorem Has.setNewOld (W : World) (o : Obj) (k : Nat) (f : Nat → Value) : Has (((W.alloc (.cells (fcells 64 fun _ => bcell 0) 96)).alloc o).setRow k (fcells 64 f)) W.heap.size := Has.set _ k _ f (Has.newOld W o)
theorem Has.setNew2 (W : World) (o : Obj) (k : Nat) (f : Nat → Value) : Has (((W.alloc o).alloc (.cells (fcells 64 fun _ => bcell 0) 96)).setRow k (fcells 64 f)) (W.heap.size + 1) := Has.set _ k _ f (Has.new2 W o)
theorem Has.setNew (W : World) (k : Nat) (f : Nat → Value) : Has ((W.alloc (.cells (fcells 64 fun _ => bcell 0) 96)).setRow k (fcells 64 f)) W.heap.size := Has.set _ k _ f (Has.new W)
theorem store_has {T : TypeId} (hT : T = 96) (f : Nat → Value) (h1 : ∀ i, i < 64 → (f i).oneCell' = true) (W : World) (g : Nat) (h : Has W g) :
    storeA (tyHide T 96) (.pointer (some ⟨g, 0, none⟩)) (.agg (fcells 64 f)) W = .ok .skip (W.setRow g (fcells 64 f)) := by
  obtain ⟨f0, hg⟩ := h
  have hr := run_storeVar_row (P := Tryd.prog) W g 96 96 (fcells 64 f0) (fcells 64 f) hg (by rw [arrB.size, fcells_size]) (by rw [fcells_size, fcells_size]) (fcells_one h1)
  unfold tyHide
  rw [hT]
  unfold storeA execOp
  simp only [Instr.storeAt, Instr.sureAddr, Sem.run_bind, Sem.run_pure, Result.andThen_ok, hr]
theorem pair_of {W : World} {I O : Nat} {fi fo : Nat → Value} (hI : Has W I) (hO : Has W O) (hne : I ≠ O) :
    Blk ((W.setRow I (fcells 64 fi)).setRow O (fcells 64 fo)) I 64 fi 96 ∧ Blk ((W.setRow I (fcells 64 fi)).setRow O (fcells 64 fo)) O 64 fo 96 := by
  obtain ⟨f1, h1⟩ := hI
  obtain ⟨f2, h2⟩ := hO
  exact ⟨(setRow_other _ _ _ _ hne).trans (setRow_heap W I _ _ _ _ h1), setRow_heap _ O _ _ _ _ ((setRow_other W I O _ (fun e => hne e.symm)).trans h2)⟩

/-- What mac.Of knows of its world: its key's block B, its result R, all that was ahead. -/
def Ok (w : World) (R B : Nat) (b : Nat → UInt8) (W : World) : Prop := R < B ∧ B < W.heap.size ∧ Blk W R 32 (fun _ => bcell 0) 27 ∧ Blk W B 64 (fun j => bcell (b j)) 96 ∧ Below R w W
section
variable {w : World} {R B : Nat} {b : Nat → UInt8}
theorem Ok.alloc (W : World) (o : Obj) (h : Ok w R B b W) : Ok w R B b (W.alloc o) := ⟨h.1, by have := h.2.1; simp; omega, h.2.2.1.alloc o, h.2.2.2.1.alloc o, h.2.2.2.2.alloc (by have := h.1; have := h.2.1; omega) o⟩
theorem Ok.drew (W : World) (h : Ok w R B b W) : Ok w R B b W.drew := ⟨h.1, h.2.1, h.2.2.1, h.2.2.2.1, h.2.2.2.2.drew⟩
theorem Ok.keep {W W' : World} (hb : Below W.heap.size W W') (h : Ok w R B b W) : Ok w R B b W' := ⟨h.1, Nat.lt_of_lt_of_le h.2.1 hb.size, h.2.2.1.keep hb, h.2.2.2.1.keep hb, h.2.2.2.2.trans (hb.mono (by have := h.1; have := h.2.1; omega))⟩
theorem Ok.set (W : World) (g : Nat) (f : Nat → Value) (hg : B < g) (h : Ok w R B b W) : Ok w R B b (W.setRow g (fcells 64 f)) :=
  ⟨h.1, by have := h.2.1; simp; omega, (setRow_other W g R _ (by have := h.1; omega)).trans h.2.2.1, (setRow_other W g B _ (by omega)).trans h.2.2.2.1, below_into h.2.2.2.2 (g := g) (by have := h.1; omega) ⟨rfl, rfl, rfl, by simp, fun k _ hk => setRow_other W g k _ (fun e => hk (by simp [e]))⟩ (by have := h.1; have := h.2.1; omega)⟩
end
/-- Two blocks that two slots point to. -/
def InOut (w : World) (R B : Nat) (b : Nat → UInt8) (fi fo : Nat → Value) (v6 v7 : Value) (W : World) : Prop :=
  ∃ I O, v6 = .pointer (some ⟨I, 0, none⟩) ∧ v7 = .pointer (some ⟨O, 0, none⟩) ∧ R < I ∧ R < O ∧ Blk W I 64 fi 96 ∧ Blk W O 64 fo 96 ∧ Ok w R B b W
theorem InOut.of {w : World} {R B I O : Nat} {b : Nat → UInt8} {fi fo : Nat → Value} {W : World} (hI : Has W I) (hO : Has W O) (hne : I ≠ O) (hRI : R < I) (hRO : R < O) (hok : Ok w R B b ((W.setRow I (fcells 64 fi)).setRow O (fcells 64 fo))) :
    InOut w R B b fi fo (.pointer (some ⟨I, 0, none⟩)) (.pointer (some ⟨O, 0, none⟩)) ((W.setRow I (fcells 64 fi)).setRow O (fcells 64 fo)) :=
  ⟨I, O, rfl, rfl, hRI, hRO, (pair_of hI hO hne).1, (pair_of hI hO hne).2, hok⟩
end Go.Proofs.YthgdgkdnidjdgaaDoor
