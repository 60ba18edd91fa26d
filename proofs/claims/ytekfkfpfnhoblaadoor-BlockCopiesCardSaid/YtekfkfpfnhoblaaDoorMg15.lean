/-
  BkGetsWalk BkCodeRead BkCodeGet BkCode BkPutsWalk Hide: what each of them says stands at its head.
-/
import Derived.Test.YtekfkfpfnhoblaaDoorMg14
import Derived.Test.YtekfkfpfnhoblaaDoorMg3
import Derived.Test.YtekfkfpfnhoblaaDoorMg13
import Derived.Test.YtekfkfpfnhoblaaDoorMg11
import Derived.Deep.RegionHeld3
import Derived.Test.YtekfkfpfnhoblaaDoorMg1
import Derived.StillTailTactics
/-
  BlockGets: which block any bytes are, if one; no other bytes are the same one's: the law's walk, from what block's functions tell.
-/
namespace Go.Proofs.YtekfkfpfnhoblaaDoor
set_option maxRecDepth 20000
open Go.RowKit
attribute [local go_sem ↓] exec_load_bk exec_alloc_bk exec_store_bk

/-- A block that was told, laid into a variable: its block, a load of it whole. -/
theorem told_var {w : World} {x : Value} {b : BkM} (h : BkV w x b) : ∃ X : Array Value, x = .agg X ∧ X.size = 36 ∧ X.all (·.oneCell') = true ∧
    (∀ Z : Array Value, Z.size = 36 → storeK (.pointer (some ⟨w.heap.size, 0, none⟩)) (.agg X) (w.alloc (.cells Z 26)) = .ok .skip (w.alloc (.cells X 26))) ∧
    (∀ W, Below (w.alloc (.cells X 26)).heap.size (w.alloc (.cells X 26)) W → loadK (.pointer (some ⟨w.heap.size, 0, none⟩)) W = .ok (.value (.agg X)) W ∧ BkV W (.agg X) b) := by
  obtain ⟨s, rfl, hp, ht⟩ := h
  refine ⟨_, rfl, bkc_size s hp, bkc_one ht, fun Z hZ => ?_, fun W hW => ?_⟩
  · rw [storeK_eq (heap_alloc_new w _) hZ (bkc_size s hp) (bkc_one ht), setK_alloc]
  · have hrow := (BoxK.new w b s).below hW (by simp)
    exact ⟨loadK_eq hrow hp, s, rfl, hp, ht.below (((Below.refl _ _).alloc (Nat.le_refl _) _).trans (hW.mono (by simp)))⟩

set_option maxHeartbeats 6400000 in
theorem lawBlockGets_any (hP : BkPutOk) (hG : BkGetOk) (hA : ∀ w, Kst 1 w → Calls Tryd.prog 7 #[] w fun e w' => e = .returned (.bool true) ∧ Below w.heap.size w w')
    (v : Value) (l : List UInt8) (w : World) (hv : Byt w v l) (hK : Kst 1 w) : Calls Tryd.prog 4 #[v] w fun e w' => e = .returned (.bool true) ∧ Below w.heap.size w w' := by
  have HP := hid hP
  have HG := hid hG
  have HA : Hid (∀ W, Below w.heap.size w W → Calls Tryd.prog 7 #[] W fun e w' => e = .returned (.bool true) ∧ Below W.heap.size W w') := hid (fun W h => hA W (hK.below h))
  have hlen := hv.len
  unfold maxLen at hlen
  obtain ⟨A, c, rfl⟩ := hv.shape
  obtain ⟨L, HL⟩ : ∃ n : Nat, Hid (l.length = n) := ⟨_, hid rfl⟩
  have HV : Hid (∀ W : World, Below w.heap.size w W → Byt W (.slice A L c) l) := hid (fun W h => by have := hv.below h; rw [HL.out] at this; exact this)
  rw [HL.out] at hlen ⊢
  obtain ⟨Z, HZ⟩ : ∃ C : Array Value, Hid (bkc bkZ (.slice none 0 0) = C) := ⟨_, hid rfl⟩
  have HAL : Hid (∀ W, allocK W = .ok (.value (.pointer (some ⟨W.heap.size, 0, none⟩))) (W.alloc (.cells Z 26))) := hid (fun W => by rw [← HZ.out]; exact allocK_eq W)
  have HSZ : Hid (Z.size = 36) := hid (by rw [← HZ.out]; exact bkc_size _ bkZ_par)
  obtain ⟨q, HQ⟩ : ∃ q : Bool, Hid (isK l = q) := ⟨_, hid rfl⟩
  obtain ⟨er, HER⟩ : ∃ n : Int, Hid ((if isK l = true then (0 : Int) else 2) = n) := ⟨_, hid rfl⟩
  clear hP hG hA hv hK
  by_cases hL : L ≤ 2000
  · have hi : ¬ (2000 : Int) < (L : Int) := by omega
    go_enter Tryd.func4, Tryd.ntmps4
    have hl9 : ([] : List UInt8).length + l.length ≤ 140737488355328 := by rw [HL.out]; simp only [List.length_nil]; omega
    go_wp2_with (at_builtin; refine wpList_append_byt rfl (.tmp 14) (.tmp 15) rfl rfl rfl (fresh0_own w) (HV.out _ ((Below.refl _ _).alloc (Nat.le_refl _) _)) hl9 (al_le w _) ?_; intro v1 w1 ho1 hg1 hv1; simp only [List.nil_append] at ho1; have hb1 := fresh0_below hg1; clear hg1 hv1)
    have C := HG.out v1 l w1 ho1.byt (by rw [HL.out]; omega)
    rw [HER.out] at C
    refine C.mono ?_
    clear C
    rintro e w2 ⟨x2, rfl, hx2, hb2⟩
    have hB2 := hb1.trans (hb2.mono hb1.size)
    clear ho1 hb1 hb2 hl9 hi
    obtain ⟨X, rfl, hX36, hX1, hXs, hXl⟩ := told_var hx2
    have HXL := hid hXl
    have hal := HAL.out
    have hs2 := hXs Z HSZ.out
    have hbn : Below w2.heap.size w2 (w2.alloc (.cells X 26)) := (Below.refl _ _).alloc (Nat.le_refl _) _
    have hB3 := hB2.trans (hbn.mono hB2.size)
    clear hXs hXl hx2 hbn hX36 hX1
    go_upto_region 4 with (fail)
    generalize w2.alloc (.cells X 26) = w3 at *
    clear hs2
    go_wp2_with fail
    refine (refGet7_any _ l w3 (HV.out _ hB3) (by rw [HL.out]; omega)).mono ?_
    rintro e w4 ⟨y4, rfl, hy4, hb4⟩
    rw [HQ.out]
    have hB4 := hB3.trans (hb4.mono hB3.size)
    obtain ⟨Y, rfl, hY36, hY1, hYs, hYl⟩ := told_var hy4
    have HYL := hid hYl
    have hs4 := hYs Z HSZ.out
    have hbn : Below w4.heap.size w4 (w4.alloc (.cells Y 26)) := (Below.refl _ _).alloc (Nat.le_refl _) _
    have hB5 := hB4.trans (hbn.mono hB4.size)
    have hb5 := hb4.trans (hbn.mono hb4.size)
    clear hYs hYl hy4 hbn hY36 hY1 hb4
    go_upto_region 5 with (fail)
    generalize w4.alloc (.cells Y 26) = w5 at *
    clear hs4 hal
    obtain ⟨lx5, bx5⟩ := HXL.out w5 hb5
    obtain ⟨ly5, by5⟩ := HYL.out w5 (Below.refl _ _)
    have HBX := hid bx5
    have HBY := hid by5
    clear bx5 by5
    go_wp2_with fail
    have C := refSame7_any (.agg X) (.agg Y) (gotK l) (gotK l) w5 HBX.out HBY.out
    rw [sameK_self] at C
    refine C.mono ?_
    clear C
    rintro e w6 ⟨rfl, hb6⟩
    have hB6 := hB5.trans (hb6.mono hB5.size)
    have hb6' := hb5.trans (hb6.mono hb5.size)
    clear lx5 ly5
    cases q with
    | false =>
      obtain rfl : er = 2 := by rw [← HER.out, HQ.out]; rfl
      go_wp2_with fail
      refine (HA.out w6 hB6).mono ?_
      rintro e w7 ⟨rfl, hb7⟩
      go_wp2_with fail
      go_ret
      exact ⟨rfl, hB6.trans (hb7.mono hB6.size)⟩
    | true =>
      obtain ⟨b, HBB⟩ : ∃ b, Hid (getK l = some b) := by
        have := HQ.out
        unfold isK at this
        exact Option.isSome_iff_exists.1 this
      have HGB : Hid (gotK l = b) := hid (by unfold gotK; rw [HBB.out]; rfl)
      obtain ⟨hm, hbl⟩ := getK_so HBB.out
      have HM := hid hm
      have HBL := hid hbl
      clear hm hbl
      obtain ⟨lx6, bx6⟩ := HXL.out w6 hb6'
      have HX6 := hid bx6
      clear bx6
      obtain rfl : er = 0 := by rw [← HER.out, HQ.out]; rfl
      go_wp2_with fail
      have C := HP.out (.agg X) b w6 (by have := HX6.out; rw [HGB.out] at this; exact this) (light_of_may (mayK_all HM.out).1)
      rw [if_pos HM.out, if_pos HM.out, HBL.out] at C
      refine C.mono ?_
      clear C
      rintro e w7 ⟨x7, rfl, hx7, hb7⟩
      have hB7 := hB6.trans (hb7.mono hB6.size)
      obtain ⟨A7, c7, rfl⟩ := hx7.shape
      rw [HL.out] at hx7 ⊢
      clear lx6
      go_wp2_with fail
      refine (same_yes _ _ l w7 hx7 (HV.out _ hB7)).mono ?_
      rintro e w8 ⟨rfl, k8, rfl⟩
      have hB8 := below_drewN hB7 k8
      go_wp2_with fail
      refine (HA.out _ hB8).mono ?_
      rintro e w9 ⟨rfl, hb9⟩
      go_wp2_with fail
      go_ret
      exact ⟨rfl, hB8.trans (hb9.mono hB8.size)⟩
  · have hi : (2000 : Int) < (L : Int) := by omega
    go_enter Tryd.func4, Tryd.ntmps4
    go_wp2_with fail
    refine (HA.out w (Below.refl _ _)).mono ?_
    rintro e w1 ⟨rfl, hb1⟩
    go_wp2_with fail
    go_ret
    exact ⟨rfl, hb1⟩
end Go.Proofs.YtekfkfpfnhoblaaDoor

/-
  block's functions: read (printed with genread.py).
-/
namespace Go.Proofs.YtekfkfpfnhoblaaDoor
set_option maxRecDepth 20000
open Go.RowKit

theorem fold_putAt : ∀ (vs : List Value) (k : Nat) (C : Array Value), (vs.zipIdx k).foldl (fun cs x => cs.setIfInBounds x.2 x.1) C = putAt C k vs
  | [], _, _ => rfl
  | v :: r, k, C => by
    simp only [List.zipIdx_cons, List.foldl_cons]
    exact fold_putAt r (k + 1) _
/-- A block that has a parent alone. -/
noncomputable def buildKH (v : Value) (w : World) : Result Next := Sem.run Tryd.prog (execOp (fun _ => v) { dst := none, op := .build 26 #[(0, .tmp 0)], type := 0, pos := "", after := #[], guard := none }) w
theorem exec_build_bkh (r : Operand → Value) (x : Operand) (dst : Option Tmp) (ty : TypeId) (pos : String) (after : Array Edge) (guard : Option (Nat × Bool)) (w : World) :
    Sem.run Tryd.prog (execOp r { dst := dst, op := .build 26 #[(0, x)], type := ty, pos := pos, after := after, guard := guard }) w = buildKH (r x) w := by
  unfold buildKH execOp
  simp
theorem buildKH_eq (h : List UInt8) (h32 : h.length = 32) (w : World) : buildKH (.agg (hcells h)) w = .ok (.value (.agg (bkc ⟨h, 0, 0, 0, []⟩ (.slice none 0 0)))) w := by
  have hsz : (hcells h).size = 32 := by rw [hcells_size, h32]
  unfold buildKH
  go_simp
  have e : (hcells h).zipIdx = ((bcells h).zipIdx).toArray := by simp [hcells]
  rw [e, List.foldl_toArray' _ _ _ (by simp [bcells_length, h32]), fold_putAt]
  exact bkc_par bkZ (.slice none 0 0) h (by rw [bkZ_par, h32])
attribute [local go_sem ↓] exec_load_tx exec_load_bk exec_build_bk exec_build_bkh exec_alloc_bk exec_store_bk

/-- What read reads; whether it reads to an end. -/
def readB (l : List UInt8) : BkM := match rdTxs l (rdHd l).p (rdHd l).r (rdHd l).n with
  | none => bkZ
  | some x => ⟨(rdHd l).par, (rdHd l).vi, (rdHd l).he, (rdHd l).bo, x.1⟩
def readIs (l : List UInt8) : Bool := (rdTxs l (rdHd l).p (rdHd l).r (rdHd l).n).isSome

theorem Rdr.grow {w w' : World} {g B : Nat} {l : List UInt8} {p : Nat} {r : Bool} {s : Value} {ts : List TxM} (h : Rdr w g l p r) (ho : OwnT B w s ts) (hgB : g < B) (hg : w.grownBy w' s.ownBlock) : Rdr w' g l p r := by
  rcases ho.2 with ⟨rfl, _⟩ | ⟨k, cap, cur, rfl, hk, hh, _⟩
  · exact h.below ((Below.refl _ _).grown hg (Nat.le_refl _) (fun k hk => by cases hk))
  · exact h.apart (k := k) hg hh (by decide) (by omega)

/-- The state of read: block w0.heap.size is the result, yet nought; block h is the block. -/
structure RkSt (w0 w : World) (g h : Nat) (l : List UInt8) (p : Nat) (r : Bool) (b : BkM) (s : Value) : Prop where
  lt : g < w0.heap.size
  gr : w0.grownBy w (some g)
  rd : Rdr w g l p r
  b0 : BoxK w w0.heap.size bkZ (.slice none 0 0)
  hh : w0.heap.size < h
  b1 : BoxK w h b s
section
variable {w0 w w' : World} {g h : Nat} {l : List UInt8} {p : Nat} {r : Bool} {b : BkM} {s : Value}
theorem RkSt.hlt (H : RkSt w0 w g h l p r b s) : h < w.heap.size := lt_of_block H.b1
theorem RkSt.grow (H : RkSt w0 w g h l p r b s) {p' : Nat} {r' : Bool} (hr : Rdr w' g l p' r') (hg : w.grownBy w' (some g)) : RkSt w0 w' g h l p' r' b s := by
  have h0 := lt_of_block H.b0
  have h1 := H.hlt
  have hlt := H.lt
  have hh := H.hh
  exact ⟨hlt, H.gr.trans hg, hr, (hg.block _ h0 (fun e => by injection e with e; omega)).trans H.b0, hh, (hg.block _ h1 (fun e => by injection e with e; omega)).trans H.b1⟩
theorem RkSt.below (H : RkSt w0 w g h l p r b s) (hb : Below w.heap.size w w') : RkSt w0 w' g h l p r b s := H.grow (H.rd.below hb) (grown_of_below hb _)
theorem RkSt.cell (H : RkSt w0 w g h l p r b s) (hp : b.par.length = 32) {b' : BkM} {s' v : Value} (i : Nat) (e : (bcells b.par ++ [.int .i64 b.vi, .int .i64 b.he, .int .i64 b.bo, s].set i v).toArray = bkc b' s') :
    RkSt w0 (w.setCell ⟨h, 32 + i, none⟩ v) g h l p r b' s' := by
  have hlt := H.lt
  have hh := H.hh
  refine ⟨hlt, grown_setNew H.gr _ _ (by simp only; omega), H.rd.apart (grown_set _ _ _ _) H.b1 (by decide) (by omega), blk_other H.b0 _ (by omega), hh, ?_⟩
  have := set_blk H.b1 (32 + i) v
  rw [bkc_set hp, e] at this
  exact this
theorem RkSt.app (H : RkSt w0 w g h l p r b s) {ts : List TxM} (ho : OwnT (h + 1) w s ts) (hg : w.grownBy w' s.ownBlock) : RkSt w0 w' g h l p r b s := by
  have hlt := H.lt
  have hh := H.hh
  have hh1 := H.hlt
  have h0 := lt_of_block H.b0
  have hne : ∀ k, k ≤ h → some k ≠ s.ownBlock := fun k hk e => by
    have := (World.ownsRow.lt ho k e.symm).1
    omega
  refine ⟨hlt, ?_, H.rd.grow ho (by omega) hg, (hg.block _ h0 (hne _ (by omega))).trans H.b0, hh, (hg.block _ hh1 (hne _ (Nat.le_refl _))).trans H.b1⟩
  have hgr := H.gr
  exact ⟨hg.os.trans hgr.os, hg.tape.trans hgr.tape, hg.output.trans hgr.output, Nat.le_trans hgr.size hg.size, fun k hk hne' => (hg.block k (Nat.lt_of_lt_of_le hk hgr.size) (hne k (by omega))).trans (hgr.block k hk hne')⟩
theorem RkSt.cells (H : RkSt w0 w g h l p r b s) (hp : b.par.length = 32) :
    (w.cell? ⟨h, 32, none⟩ = some (.int .i64 b.vi) ∧ w.cell? ⟨h, 33, none⟩ = some (.int .i64 b.he) ∧ w.cell? ⟨h, 34, none⟩ = some (.int .i64 b.bo) ∧ w.cell? ⟨h, 35, none⟩ = some s) ∧ (∀ i, w.frozen? ⟨h, i, none⟩ = false) :=
  ⟨H.b1.cells hp, H.b1.free⟩
end
/-- What read tells. -/
def ReadPost (w : World) (g : Nat) (l : List UInt8) (e : Ending) (w' : World) : Prop :=
  ∃ x, e = .returned (.tuple #[x, .bool (readIs l)]) ∧ BkNew w.heap.size w' x (readB l) ∧ (∃ q r, Rdr w' g l q r ∧ ∀ y, rdTxs l (rdHd l).p (rdHd l).r (rdHd l).n = some y → q = y.2.1 ∧ r = y.2.2) ∧ w.grownBy w' (some g)
theorem readPost_no {w w' : World} {g q : Nat} {r : Bool} {l : List UInt8} (hn : rdTxs l (rdHd l).p (rdHd l).r (rdHd l).n = none) (hr : Rdr w' g l q r) (hg : w.grownBy w' (some g)) :
    ReadPost w g l (.returned (.tuple #[.agg (bkc bkZ (.slice none 0 0)), .bool false])) w' := by
  refine ⟨_, by unfold readIs; rw [hn]; rfl, ?_, ⟨q, r, hr, fun y hy => by rw [hn] at hy; cases hy⟩, hg⟩
  unfold readB
  rw [hn]
  exact ⟨_, rfl, bkZ_par, Txs.nil w', fun h => absurd h (by simp [bkZ])⟩
theorem readPost_yes {w w' : World} {g q : Nat} {r : Bool} {l : List UInt8} {b : BkM} {s : Value} {ts : List TxM} (hn : rdTxs l (rdHd l).p (rdHd l).r (rdHd l).n = some (ts, q, r)) (hb : b = ⟨(rdHd l).par, (rdHd l).vi, (rdHd l).he, (rdHd l).bo, ts⟩)
    (hp : b.par.length = 32) (ht : OwnT w.heap.size w' s b.txs) (hr : Rdr w' g l q r) (hg : w.grownBy w' (some g)) : ReadPost w g l (.returned (.tuple #[.agg (bkc b s), .bool true])) w' := by
  refine ⟨_, by unfold readIs; rw [hn]; rfl, ?_, ⟨q, r, hr, fun y hy => by rw [hn] at hy; injection hy with hy; subst hy; exact ⟨rfl, rfl⟩⟩, hg⟩
  unfold readB
  rw [hn]
  simp only
  rw [← hb]
  exact ⟨_, rfl, hp, ht.txs, fun _ => ht⟩
/-- What was read lies apart from a variable that was there before. -/
theorem BkNew.fin {B g : Nat} {w w' : World} {x : Value} {b : BkM} {C : Array Value} (h : BkNew B w x b) (hb : Below w.heap.size w w') (hg : g < B) : BkV (setK w' g C) x b := by
  obtain ⟨s, rfl, hp, ht, ho⟩ := h
  refine ⟨s, rfl, hp, ?_⟩
  by_cases h0 : 0 < b.txs.length
  · exact (((ho h0).below hb).setK hg).txs
  · obtain ⟨A, c, e, h1, h2, h3⟩ := ht
    exact ⟨A, c, e, h1, h2, fun h => absurd h h0⟩

set_option maxHeartbeats 6400000 in
theorem bkRead_any (g : Nat) (l : List UInt8) (w : World) (hr : Rdr w g l 0 true) (hl : l.length ≤ 1000000) :
    Calls Tryd.prog 31 #[.pointer (some ⟨g, 0, none⟩)] w (ReadPost w g l) := by
  have HH := hid (fun p r W (h : Rdr W g l p r) => rhash_any g l p r W h (by omega))
  have HU := hid (fun p r W (h : Rdr W g l p r) m (h1 : -9223372036854775808 ≤ m) (h2 : m ≤ 9223372036854775807) => upto_any g l p r m W h (by omega) h1 h2)
  have HT : Hid (∀ p r W, Rdr W g l p r → Calls Tryd.prog 55 #[.pointer (some ⟨g, 0, none⟩)] W fun e w' => e = .returned (.tuple #[txv (rdTx l p r), .bool (rdIs l p r)]) ∧ (∃ p' r', Rdr w' g l p' r' ∧ (rdIs l p r = true → p' = (rdRaw l p r).2.1 ∧ r' = true)) ∧ W.grownBy w' (some g)) := hid (fun p r W h => txRead_ok g l p r W h hl)
  obtain ⟨Z, HZ⟩ : ∃ C : Array Value, Hid (bkc bkZ (.slice none 0 0) = C) := ⟨_, hid rfl⟩
  have HBZ : Hid (∀ W, buildK W = .ok (.value (.agg Z)) W) := hid (fun W => by rw [← HZ.out]; exact buildK_eq W)
  have HAL : Hid (∀ W, allocK W = .ok (.value (.pointer (some ⟨W.heap.size, 0, none⟩))) (W.alloc (.cells Z 26))) := hid (fun W => by rw [← HZ.out]; exact allocK_eq W)
  have HSZ : Hid (Z.size = 36) := hid (by rw [← HZ.out]; exact bkc_size _ bkZ_par)
  have HZ1 : Hid (Z.all (·.oneCell') = true) := hid (by rw [← HZ.out]; exact bkc_one (w := w) (b := bkZ) (Txs.nil w))
  have hb0 : Below w.heap.size w (w.alloc (.cells Z 26)) := (Below.refl _ _).alloc (Nat.le_refl _) _
  have hrz := heap_alloc_new w (.cells Z 26)
  have hrd0 := hr.below hb0
  have HGL := hid hr.lt
  have hal := HAL.out
  clear hr
  go_enter Tryd.func31, Tryd.ntmps31
  go_upto_region 1 with (fail)
  have HGR0 := hid (grown_of_below hb0 (some g))
  generalize (w.alloc (.cells Z 26)) = w0 at *
  clear hb0 hal
  go_wp2_with fail
  obtain ⟨h0, p0, r0, HA0⟩ : ∃ x q s, Hid (rdHash l 0 true = (x, q, s)) := ⟨_, _, _, hid rfl⟩
  have hh0 : h0.length = 32 := by have := rdHash_32 l 0 true; rw [HA0.out] at this; exact this
  have C := HH.out 0 true w0 hrd0
  rw [HA0.out] at C
  refine C.mono ?_
  clear C
  rintro e wh ⟨rfl, hrd, hgr⟩
  simp only at hrd
  have hzl := lt_of_block hrz
  have hrz1 := (hgr.block _ hzl (fun e => by injection e with e; have := HGL.out; omega)).trans hrz
  have hbh := buildKH_eq h0 hh0 wh
  obtain ⟨Y, HY⟩ : ∃ C : Array Value, Hid (bkc ⟨h0, 0, 0, 0, []⟩ (.slice none 0 0) = C) := ⟨_, hid rfl⟩
  have hy36 : Y.size = 36 := by rw [← HY.out]; exact bkc_size (b := ⟨h0, 0, 0, 0, []⟩) _ hh0
  have hy1 : Y.all (·.oneCell') = true := by rw [← HY.out]; exact bkc_one (w := w) (b := ⟨h0, 0, 0, 0, []⟩) (Txs.nil w)
  rw [HY.out] at hbh
  have hs1 : storeK (.pointer (some ⟨wh.heap.size, 0, none⟩)) (.agg Y) (wh.alloc (.cells Z 26)) = .ok .skip (wh.alloc (.cells Y 26)) := by
    rw [storeK_eq (heap_alloc_new wh _) HSZ.out hy36 hy1, setK_alloc]
  have hbn : Below wh.heap.size wh (wh.alloc (.cells Y 26)) := (Below.refl _ _).alloc (Nat.le_refl _) _
  have hst1 : RkSt w (wh.alloc (.cells Y 26)) g wh.heap.size l p0 r0 ⟨h0, 0, 0, 0, []⟩ (.slice none 0 0) := by
    refine ⟨HGL.out, (HGR0.out.trans hgr).trans (grown_of_below hbn _), hrd.below hbn, ?_, lt_of_block hrz1, ?_⟩
    · unfold BoxK
      rw [HZ.out]
      exact (hbn.block _ (lt_of_block hrz1)).trans hrz1
    · unfold BoxK
      rw [HY.out]
      exact heap_alloc_new wh _
  have HST := hid hst1
  have HH0 := hid hh0
  have hal := HAL.out
  clear hst1 hbn hrd hgr hrz hrz1 hzl hy36 hy1 hrd0 hh0
  go_upto_region 2 with (fail)
  generalize (wh.alloc (.cells Y 26)) = w1 at *
  clear hs1 hbh hal
  obtain ⟨⟨c0, c1, c2, c3⟩, g1⟩ := HST.out.cells HH0.out
  go_wp2_with fail
  obtain ⟨a1, p1, r1, HA1⟩ : ∃ x q s, Hid (rdUpto 1099511627776 l p0 r0 = (x, q, s)) := ⟨_, _, _, hid rfl⟩
  have hm1 : a1 ≤ 1099511627776 := by have := rdUpto_le (m := 1099511627776) (l := l) (p := p0) (r := r0); rw [show ((1099511627776 : Nat) : Int) = 1099511627776 from rfl, HA1.out] at this; exact this
  have C := HU.out p0 r0 _ (HST.out).rd 1099511627776 (by omega) (by omega)
  rw [HA1.out] at C
  refine C.mono ?_
  clear C
  rintro e w2 ⟨rfl, hrd, hgr⟩
  have hst : RkSt w w2 g wh.heap.size l p1 r1 ⟨h0, 0, 0, 0, []⟩ (.slice none 0 0) := (HST.out).grow hrd hgr
  clear hrd hgr HST c0 c1 c2 c3 g1
  obtain ⟨⟨c0, c1, c2, c3⟩, g1⟩ := hst.cells HH0.out
  have HST := hid hst
  clear hst
  go_wp2_with fail
  obtain ⟨a2, p2, r2, HA2⟩ : ∃ x q s, Hid (rdUpto 1099511627776 l p1 r1 = (x, q, s)) := ⟨_, _, _, hid rfl⟩
  have hm2 : a2 ≤ 1099511627776 := by have := rdUpto_le (m := 1099511627776) (l := l) (p := p1) (r := r1); rw [show ((1099511627776 : Nat) : Int) = 1099511627776 from rfl, HA2.out] at this; exact this
  have C := HU.out p1 r1 _ (HST.out.cell HH0.out (b' := ⟨h0, (a1 : Int), 0, 0, []⟩) (s' := .slice none 0 0) (v := .int .i64 (a1 : Int)) 0 rfl).rd 1099511627776 (by omega) (by omega)
  rw [HA2.out] at C
  refine C.mono ?_
  clear C
  rintro e w3 ⟨rfl, hrd, hgr⟩
  have hst : RkSt w w3 g wh.heap.size l p2 r2 ⟨h0, (a1 : Int), 0, 0, []⟩ (.slice none 0 0) := (HST.out.cell HH0.out (b' := ⟨h0, (a1 : Int), 0, 0, []⟩) (s' := .slice none 0 0) (v := .int .i64 (a1 : Int)) 0 rfl).grow hrd hgr
  clear hrd hgr HST c0 c1 c2 c3 g1
  obtain ⟨⟨c0, c1, c2, c3⟩, g1⟩ := hst.cells HH0.out
  have HST := hid hst
  clear hst
  go_wp2_with fail
  obtain ⟨a3, p3, r3, HA3⟩ : ∃ x q s, Hid (rdUpto 21 l p2 r2 = (x, q, s)) := ⟨_, _, _, hid rfl⟩
  have hm3 : a3 ≤ 21 := by have := rdUpto_le (m := 21) (l := l) (p := p2) (r := r2); rw [show ((21 : Nat) : Int) = 21 from rfl, HA3.out] at this; exact this
  have C := HU.out p2 r2 _ (HST.out.cell HH0.out (b' := ⟨h0, (a1 : Int), (a2 : Int), 0, []⟩) (s' := .slice none 0 0) (v := .int .i64 (a2 : Int)) 1 rfl).rd 21 (by omega) (by omega)
  rw [HA3.out] at C
  refine C.mono ?_
  clear C
  rintro e w4 ⟨rfl, hrd, hgr⟩
  have hst : RkSt w w4 g wh.heap.size l p3 r3 ⟨h0, (a1 : Int), (a2 : Int), 0, []⟩ (.slice none 0 0) := (HST.out.cell HH0.out (b' := ⟨h0, (a1 : Int), (a2 : Int), 0, []⟩) (s' := .slice none 0 0) (v := .int .i64 (a2 : Int)) 1 rfl).grow hrd hgr
  clear hrd hgr HST c0 c1 c2 c3 g1
  obtain ⟨⟨c0, c1, c2, c3⟩, g1⟩ := hst.cells HH0.out
  have HST := hid hst
  clear hst
  go_wp2_with fail
  obtain ⟨a4, p4, r4, HA4⟩ : ∃ x q s, Hid (rdUpto 8 l p3 r3 = (x, q, s)) := ⟨_, _, _, hid rfl⟩
  have hm4 : a4 ≤ 8 := by have := rdUpto_le (m := 8) (l := l) (p := p3) (r := r3); rw [show ((8 : Nat) : Int) = 8 from rfl, HA4.out] at this; exact this
  have C := HU.out p3 r3 _ (HST.out.cell HH0.out (b' := ⟨h0, (a1 : Int), (a2 : Int), (a3 : Int), []⟩) (s' := .slice none 0 0) (v := .int .i64 (a3 : Int)) 2 rfl).rd 8 (by omega) (by omega)
  rw [HA4.out] at C
  refine C.mono ?_
  clear C
  rintro e w5 ⟨rfl, hrd, hgr⟩
  have hst : RkSt w w5 g wh.heap.size l p4 r4 ⟨h0, (a1 : Int), (a2 : Int), (a3 : Int), []⟩ (.slice none 0 0) := (HST.out.cell HH0.out (b' := ⟨h0, (a1 : Int), (a2 : Int), (a3 : Int), []⟩) (s' := .slice none 0 0) (v := .int .i64 (a3 : Int)) 2 rfl).grow hrd hgr
  clear hrd hgr HST c0 c1 c2 c3 g1
  obtain ⟨⟨c0, c1, c2, c3⟩, g1⟩ := hst.cells HH0.out
  have HST := hid hst
  clear hst
  have HD : Hid (rdHd l = ⟨h0, (a1 : Int), (a2 : Int), (a3 : Int), a4, p4, r4⟩) := hid (by unfold rdHd; simp only [HA0.out, HA1.out, HA2.out, HA3.out, HA4.out])
  obtain ⟨hd, HHD⟩ : ∃ d : Nat, Hid (wh.heap.size = d) := ⟨_, hid rfl⟩
  rw [HHD.out] at c0 c1 c2 c3 g1 HST
  have hst5 := HST.out
  go_wp2_with fail
  rw [HHD.out]
  clear HH HU HA0 HA1 HA2 HA3 HA4 c0 c1 c2 c3 g1 HST HY
  go_loopw [21] (fun si wr => ∃ (i : Nat) (ts : List TxM) (q : Nat) (r : Bool) (s : Value), i ≤ a4 ∧ si = .int .i64 i ∧ Hid (rdTxs l p4 r4 i = some (ts, q, r)) ∧ RkSt w wr g hd l q r ⟨h0, (a1 : Int), (a2 : Int), (a3 : Int), ts⟩ s ∧ OwnT (hd + 1) wr s ts) (fun si _ => a4 - (intOf si).toNat)
  case atStart => exact ⟨0, [], p4, r4, .slice none 0 0, Nat.zero_le _, rfl, hid rfl, hst5, OwnT.nil _ _⟩
  case round =>
    clear hst5
    obtain ⟨i, ts, q, r, s, hi, rfl, HR, hst, how⟩ := hrel
    have HST := hid hst
    have HOW := hid how
    clear hst how
    by_cases hlt : i < a4
    · have hI : (i : Int) < (a4 : Int) := by omega
      go_wp2_with fail
      have C := HT.out q r _ HST.out.rd
      obtain ⟨t, HTT⟩ : ∃ x, Hid (rdTx l q r = x) := ⟨_, hid rfl⟩
      obtain ⟨ok, HOK⟩ : ∃ x, Hid (rdIs l q r = x) := ⟨_, hid rfl⟩
      rw [HTT.out, HOK.out] at C
      refine C.mono ?_
      clear C
      rintro e w7 ⟨rfl, ⟨q', r', hrd, hqr⟩, hgr⟩
      have HQR := hid hqr
      have hst7 := HST.out.grow hrd hgr
      have how7 := HOW.out.far hgr (by have := HST.out.lt; have := HST.out.hh; omega)
      unfold txv
      have htx := heap_alloc_new w7 (.cells #[.int .i64 t.fr, .int .i64 t.no, .int .i64 t.ki, .int .i64 t.to, .int .i64 t.am, .string (sb t.key), .string (sb t.val)] 45)
      have hb8 : Below w7.heap.size w7 (w7.alloc (.cells #[.int .i64 t.fr, .int .i64 t.no, .int .i64 t.ki, .int .i64 t.to, .int .i64 t.am, .string (sb t.key), .string (sb t.val)] 45)) := (Below.refl _ _).alloc (Nat.le_refl _) _
      have hst8 := hst7.below hb8
      have how8 := how7.below hb8
      clear hb8 hrd hqr hgr HST HOW hst7 how7
      go_upto_region 8 with (fail)
      generalize (w7.alloc (.cells #[.int .i64 t.fr, .int .i64 t.no, .int .i64 t.ki, .int .i64 t.to, .int .i64 t.am, .string (sb t.key), .string (sb t.val)] 45)) = w8 at *
      cases ok with
      | false =>
        have hbz := HBZ.out
        have hs0 : storeK (.pointer (some ⟨w.heap.size, 0, none⟩)) (.agg Z) w8 = .ok .skip w8 := by
          have hg := hst8.b0
          unfold BoxK at hg
          rw [HZ.out] at hg
          rw [storeK_eq hg HSZ.out HSZ.out HZ1.out, setK_self hg]
        have HST8 := hid hst8
        have HN : Hid (rdTxs l (rdHd l).p (rdHd l).r (rdHd l).n = none) := hid (by
          rw [HD.out]
          simp only
          rw [rdTxs_none (rdTxs_stop HR.out HOK.out) a4 (by omega)])
        clear hst8 how8 htx hi
        go_wp2_with fail
        have hg := HST8.out.b0
        unfold BoxK at hg
        refine bodyPost_ret (results_kb rfl _ _ _ _ _ _ rfl rfl hg (bkc_size _ bkZ_par)) rfl ?_
        exact readPost_no HN.out HST8.out.rd HST8.out.gr
      | true =>
        obtain ⟨⟨c0, c1, c2, c3⟩, g1⟩ := hst8.cells HH0.out
        have l8 := loadTx_eq htx rfl
        have HST8 := hid hst8
        have HOW8 := hid how8
        have hlen : ts.length + [t].length ≤ 1000000000 := by
          have := rdTxs_len HR.out
          simp only at this
          simp only [List.length_cons, List.length_nil]
          omega
        have HTO : Hid (Txs (w8.alloc (.cells #[.int .i64 t.fr, .int .i64 t.no, .int .i64 t.ki, .int .i64 t.to, .int .i64 t.am, .string (sb t.key), .string (sb t.val)] 45)) (.slice (some ⟨w8.heap.size, 0, none⟩) 1 1) [t]) := hid (txs_one w8 t #[.int .i64 t.fr, .int .i64 t.no, .int .i64 t.ki, .int .i64 t.to, .int .i64 t.am, .string (sb t.key), .string (sb t.val)] rfl)
        have HB9 : Hid (hd + 1 ≤ (w8.alloc (.cells #[.int .i64 t.fr, .int .i64 t.no, .int .i64 t.ki, .int .i64 t.to, .int .i64 t.am, .string (sb t.key), .string (sb t.val)] 45)).heap.size) := hid (by have := hst8.hlt; simp; omega)
        have HST9 : Hid (RkSt w (w8.alloc (.cells #[.int .i64 t.fr, .int .i64 t.no, .int .i64 t.ki, .int .i64 t.to, .int .i64 t.am, .string (sb t.key), .string (sb t.val)] 45)) g hd l q' r' ⟨h0, (a1 : Int), (a2 : Int), (a3 : Int), ts⟩ s) := hid (hst8.below ((Below.refl _ _).alloc (Nat.le_refl _) _))
        clear hst8 how8 htx
        go_wp2_with (at_builtin; refine wpList_append_tx rfl (.tmp 32) (.tmp 34) rfl rfl rfl (HOW8.out.alloc _) HTO.out hlen HB9.out ?_; intro v9 w9 ho9 hg9 hv9; have HST10 := hid (HST9.out.app (HOW8.out.alloc _) hg9); obtain ⟨⟨d0, d1, d2, d3⟩, f1⟩ := HST10.out.cells HH0.out; clear hg9 hv9; obtain ⟨A9, n9, c9, rfl⟩ := ho9.shape3)
        obtain ⟨HQ', HR'⟩ := HQR.out rfl
        go_roundw
        case rel =>
          refine ⟨i + 1, ts ++ [t], q', r', .slice A9 n9 c9, by omega, by go_num, hid ?_, ?_, ?_⟩
          · rw [rdTxs_succ HR.out HOK.out, HTT.out, HQ', HR']
          · exact HST10.out.cell HH0.out (b' := ⟨h0, (a1 : Int), (a2 : Int), (a3 : Int), ts ++ [t]⟩) (s' := .slice A9 n9 c9) (v := .slice A9 n9 c9) 3 rfl
          · exact ho9.set (by omega) _ _
        case measure => simp [intOf]; omega
    · have E4 := hid (show i = a4 by omega)
      have hI : ¬ (i : Int) < (a4 : Int) := by omega
      have HN : Hid (rdTxs l (rdHd l).p (rdHd l).r (rdHd l).n = some (ts, q, r)) := hid (by
        rw [HD.out]
        simp only
        rw [← E4.out]
        exact HR.out)
      obtain ⟨SA, SN, SC, rfl⟩ := HOW.out.shape3
      obtain ⟨b, HBE⟩ : ∃ b : BkM, Hid ((⟨h0, (a1 : Int), (a2 : Int), (a3 : Int), ts⟩ : BkM) = b) := ⟨_, hid rfl⟩
      have HBP : Hid (b.par.length = 32) := hid (by rw [← HBE.out]; exact HH0.out)
      have HBT : Hid (b.txs = ts) := hid (by rw [← HBE.out])
      have HBD : Hid (b = ⟨(rdHd l).par, (rdHd l).vi, (rdHd l).he, (rdHd l).bo, ts⟩) := hid (by rw [← HBE.out, HD.out])
      rw [HBE.out] at HST
      obtain ⟨CB, HCB⟩ : ∃ C : Array Value, Hid (bkc b (.slice SA SN SC) = C) := ⟨_, hid rfl⟩
      have hC36 : CB.size = 36 := by rw [← HCB.out]; exact bkc_size _ HBP.out
      have hC1 : CB.all (·.oneCell') = true := by rw [← HCB.out]; exact bkc_one (by rw [HBT.out]; exact HOW.out.txs)
      have l9 : loadK (.pointer (some ⟨hd, 0, none⟩)) wr = .ok (.value (.agg CB)) wr := by
        have := loadK_eq HST.out.b1 HBP.out
        rw [HCB.out] at this
        exact this
      have hs9 := storeK_eq (C := CB) HST.out.b0 (bkc_size _ bkZ_par) hC36 hC1
      have HG := hid (setK_same (C := CB) HST.out.b0)
      have HC36 := hid hC36
      have HOW3 := hid (HOW.out.setK (g := w.heap.size) (C := CB) (by have := HST.out.hh; omega))
      have HRD3 : Hid (Rdr (setK wr w.heap.size CB) g l q r) := hid (HST.out.rd.keep fun k hk hh => by
        refine setK_other wr CB ?_
        rcases hh with e | ⟨v, hv, hvb⟩
        · have := HST.out.lt
          omega
        · intro e
          subst e
          exact own_ne hv HST.out.b0 (by decide) hvb)
      have HGR3 : Hid (w.grownBy (setK wr w.heap.size CB) (some g)) := hid (by
        have hgr := HST.out.gr
        refine ⟨hgr.os, hgr.tape, hgr.output, by rw [setK_size]; exact hgr.size, fun k hk hne => (setK_other wr CB (by omega)).trans (hgr.block k hk hne)⟩)
      clear hC36 hC1 hi hlt
      go_wp2_with fail
      refine bodyPost_ret (results_kb rfl _ _ _ _ _ _ rfl rfl HG.out HC36.out) rfl ?_
      rw [← HCB.out] at HRD3 HGR3 HOW3 ⊢
      exact readPost_yes HN.out HBD.out HBP.out (by rw [HBT.out]; exact HOW3.out.more (by have := HST.out.hh; omega)) HRD3.out HGR3.out
end Go.Proofs.YtekfkfpfnhoblaaDoor

/-
  block's functions: Get.
-/
namespace Go.Proofs.YtekfkfpfnhoblaaDoor
set_option maxRecDepth 20000
open Go.RowKit
attribute [local go_sem ↓] exec_load_bk exec_build_bk exec_alloc_bk exec_store_bk

theorem getK_none {l : List UInt8} (h : rdTxs l (rdHd l).p (rdHd l).r (rdHd l).n = none) : getK l = none := by
  unfold getK
  rw [h]
theorem getK_done {l : List UInt8} {x : List TxM × Nat × Bool} (h : rdTxs l (rdHd l).p (rdHd l).r (rdHd l).n = some x) (hr : x.2.2 = true) (he : x.2.1 = l.length) (hm : mayK ⟨(rdHd l).par, (rdHd l).vi, (rdHd l).he, (rdHd l).bo, x.1⟩ = true) :
    getK l = some ⟨(rdHd l).par, (rdHd l).vi, (rdHd l).he, (rdHd l).bo, x.1⟩ := by
  have hb := getK_end h hr he
  unfold getK
  rw [h]
  simp only
  rw [if_pos ⟨hr, hm, hb⟩]
theorem getK_may {l : List UInt8} {x : List TxM × Nat × Bool} (h : rdTxs l (rdHd l).p (rdHd l).r (rdHd l).n = some x) (hm : mayK ⟨(rdHd l).par, (rdHd l).vi, (rdHd l).he, (rdHd l).bo, x.1⟩ = false) : getK l = none := by
  unfold getK
  rw [h]
  simp only
  rw [if_neg (fun h => by rw [hm] at h; exact absurd h.2.1 (by decide))]
theorem getK_not {l : List UInt8} {x : List TxM × Nat × Bool} (h : rdTxs l (rdHd l).p (rdHd l).r (rdHd l).n = some x) (hn : ¬ (x.2.2 = true ∧ x.2.1 = l.length)) : getK l = none := by
  cases hg : getK l with
  | none => rfl
  | some b =>
    exfalso
    apply hn
    have hp := getK_par hg
    obtain ⟨hm, hb⟩ := getK_so hg
    obtain ⟨e1, e2⟩ := hd_back hp hm
    rw [hb] at e1 e2
    rw [e1] at h
    simp only at h
    rw [rdTxs_back b.txs _ (mayK_all hm).1 e2 _ (Nat.le_refl _)] at h
    injection h with h
    subst h
    refine ⟨rfl, ?_⟩
    rw [← hb]
    unfold bytesK
    simp only [List.take_length, List.length_append]
    omega

set_option maxHeartbeats 6400000 in
theorem bkGet_ok : BkGetOk := by
  intro v l w hv hl
  obtain ⟨ok, HOK⟩ : ∃ q : Bool, Hid (readIs l = q) := ⟨_, hid rfl⟩
  have HRE : Hid (∀ g W, Rdr W g l 0 true → Calls Tryd.prog 31 #[.pointer (some ⟨g, 0, none⟩)] W fun e w' => ∃ x, e = .returned (.tuple #[x, .bool ok]) ∧ BkNew W.heap.size w' x (readB l) ∧ (∃ q r, Rdr w' g l q r ∧ ∀ y, rdTxs l (rdHd l).p (rdHd l).r (rdHd l).n = some y → q = y.2.1 ∧ r = y.2.2) ∧ W.grownBy w' (some g)) := hid (fun g W h => by
    have := bkRead_any g l W h hl
    unfold ReadPost at this
    rw [HOK.out] at this
    exact this)
  have HDN := hid (fun g p r W (h : Rdr W g l p r) => done_any g l p r W h (by omega))
  obtain ⟨er, HER⟩ : ∃ n : Int, Hid ((if isK l = true then (0 : Int) else 2) = n) := ⟨_, hid rfl⟩
  rw [HER.out]
  obtain ⟨Z, HZ⟩ : ∃ C : Array Value, Hid (bkc bkZ (.slice none 0 0) = C) := ⟨_, hid rfl⟩
  have HBZ : Hid (∀ W, buildK W = .ok (.value (.agg Z)) W) := hid (fun W => by rw [← HZ.out]; exact buildK_eq W)
  have HAL : Hid (∀ W, allocK W = .ok (.value (.pointer (some ⟨W.heap.size, 0, none⟩))) (W.alloc (.cells Z 26))) := hid (fun W => by rw [← HZ.out]; exact allocK_eq W)
  have HSZ : Hid (Z.size = 36) := hid (by rw [← HZ.out]; exact bkc_size _ bkZ_par)
  have HZ1 : Hid (Z.all (·.oneCell') = true) := hid (by rw [← HZ.out]; exact bkc_one (w := w) (b := bkZ) (Txs.nil w))
  have hb0 : Below w.heap.size w (w.alloc (.cells Z 26)) := (Below.refl _ _).alloc (Nat.le_refl _) _
  have hrz := heap_alloc_new w (.cells Z 26)
  have hv0 := hv.below hb0
  have hal := HAL.out
  have HNO : Hid (getK l = none → ∀ W : World, W.heap[w.heap.size]? = some (.cells Z 26 (0, 0)) → Below w.heap.size w W → er = 2 ∧ storeK (.pointer (some ⟨w.heap.size, 0, none⟩)) (.agg Z) W = .ok .skip W ∧ BkV W (.agg Z) (gotK l)) := hid (fun hn W hg _ => by
    refine ⟨?_, by rw [storeK_eq hg HSZ.out HSZ.out HZ1.out, setK_self hg], ?_⟩
    · rw [← HER.out]
      unfold isK
      rw [hn]
      rfl
    · unfold gotK
      rw [hn]
      exact ⟨.slice none 0 0, by rw [← HZ.out]; rfl, bkZ_par, Txs.nil _⟩)
  clear hv
  go_enter Tryd.func16, Tryd.ntmps16
  go_upto_region 1 with (fail)
  generalize (w.alloc (.cells Z 26)) = w0 at *
  clear hal
  have hzl := lt_of_block hrz
  go_wp2_with fail
  refine (read_any v l w0 hv0 (by omega)).mono ?_
  rintro e w1 ⟨g, rfl, hgl, hrd, hb1⟩
  have hB1 := hb0.trans (hb1.mono hb0.size)
  have hr1 := (hb1.block _ hzl).trans hrz
  go_wp2_with fail
  refine (HRE.out g w1 hrd).mono ?_
  rintro e w2 ⟨x, rfl, hx2, ⟨q, r, hrd2, hqr⟩, hgr2⟩
  have hB2 : Below w.heap.size w w2 := hB1.grown hgr2 hB1.size (fun k hk => by injection hk with hk; have := hb0.size; omega)
  have hr2 := (hgr2.block _ (lt_of_block hr1) (fun e => by injection e with e; omega)).trans hr1
  have HQR := hid hqr
  have HN2 := hid (fun w' g C (h1 : Below w2.heap.size w2 w') (h2 : g < w1.heap.size) => hx2.fin (C := C) h1 h2)
  obtain ⟨X, rfl, hX36, hX1, hXs, hXl⟩ := told_var hx2.bk
  have HXL := hid hXl
  have HX1 := hid hX1
  have HX36 := hid hX36
  have hal := HAL.out
  have hs2 := hXs Z HSZ.out
  have hbn : Below w2.heap.size w2 (w2.alloc (.cells X 26)) := (Below.refl _ _).alloc (Nat.le_refl _) _
  have hB3 := hB2.trans (hbn.mono hB2.size)
  have HB23 := hid (fun W (h : Below (w2.alloc (.cells X 26)).heap.size (w2.alloc (.cells X 26)) W) => hbn.trans (h.mono hbn.size))
  have HL1 := hid (lt_of_block hr1)
  have hrd3 := hrd2.below hbn
  have hr3 := (hbn.block _ (lt_of_block hr2)).trans hr2
  clear hXs hXl hx2 hX36 hX1 hgr2 hqr hrd2 hb1 hrd hr1 hB1 hv0 hb0 hrz hbn hgl hr2 hB2
  go_upto_region 3 with (fail)
  generalize w2.alloc (.cells X 26) = w3 at *
  clear hs2 hal
  have HR3 := hid hr3
  have HB3 := hid hB3
  have HZL := hid hzl
  clear hr3 hB3 hzl
  cases ok with
  | false =>
    have HN : Hid (getK l = none) := hid (getK_none (by
      have := HOK.out
      unfold readIs at this
      simpa using this))
    obtain ⟨rfl, hs, hbv⟩ := HNO.out HN.out w3 HR3.out HB3.out
    have hbz := HBZ.out
    have HBV := hid hbv
    clear hbv
    go_wp2_with fail
    refine bodyPost_ret (results_kb rfl _ _ _ _ _ _ rfl rfl HR3.out HSZ.out) rfl ?_
    exact ⟨_, rfl, HBV.out, HB3.out⟩
  | true =>
    obtain ⟨y, HY⟩ : ∃ y, Hid (rdTxs l (rdHd l).p (rdHd l).r (rdHd l).n = some y) := by
      have := HOK.out
      unfold readIs at this
      exact Option.isSome_iff_exists.1 this
    obtain ⟨rfl, rfl⟩ := HQR.out y HY.out
    obtain ⟨d, HDD⟩ : ∃ d : Bool, Hid ((y.2.2 && decide (y.2.1 = l.length)) = d) := ⟨_, hid rfl⟩
    have HRB : Hid (readB l = ⟨(rdHd l).par, (rdHd l).vi, (rdHd l).he, (rdHd l).bo, y.1⟩) := hid (by unfold readB; rw [HY.out])
    go_wp2_with fail
    have C := HDN.out g _ _ w3 hrd3
    rw [HDD.out] at C
    refine C.mono ?_
    clear C
    rintro e w4 ⟨rfl, k4, rfl⟩
    have hbd : Below w3.heap.size w3 (w3.drewN k4) := below_drewN (Below.refl _ _) k4
    have hr4 : (w3.drewN k4).heap[w.heap.size]? = some (.cells Z 26 (0, 0)) := HR3.out
    have hB4 := below_drewN HB3.out k4
    have hx4 := HXL.out _ hbd
    have HR4 := hid hr4
    have HB4 := hid hB4
    have HBD := hid hbd
    clear hr4 hB4 hbd hrd3
    generalize w3.drewN k4 = w4 at *
    cases d with
    | false =>
      have HN : Hid (getK l = none) := hid (getK_not HY.out (fun h => by
        have := HDD.out
        rw [h.1, h.2, decide_eq_true rfl] at this
        cases this))
      obtain ⟨rfl, hs, hbv⟩ := HNO.out HN.out w4 HR4.out HB4.out
      have hbz := HBZ.out
      have HBV := hid hbv
      clear hbv hx4
      go_wp2_with fail
      refine bodyPost_ret (results_kb rfl _ _ _ _ _ _ rfl rfl HR4.out HSZ.out) rfl ?_
      exact ⟨_, rfl, HBV.out, HB4.out⟩
    | true =>
      have hd := HDD.out
      rw [Bool.and_eq_true] at hd
      have HD1 := hid hd.1
      have HD2 := hid (of_decide_eq_true hd.2)
      have HLK : Hid (lightK (readB l)) := hid (by
        rw [HRB.out]
        exact light_of_may (rdTxs_so HY.out HD1.out).2.1)
      obtain ⟨m, HM⟩ : ∃ m : Bool, Hid (mayK (readB l) = m) := ⟨_, hid rfl⟩
      have HCK := hid (bkCheck_ok _ (readB l) w4 hx4.2 HLK.out)
      rw [HM.out] at HCK
      have l4 := hx4.1
      clear hx4 hd
      go_wp2_with fail
      refine HCK.out.mono ?_
      rintro e w5 ⟨rfl, hb5⟩
      have HB5 := hid (HB4.out.trans (hb5.mono HB4.out.size))
      have HR5 := hid ((hb5.block _ (lt_of_block HR4.out)).trans HR4.out)
      have HB35 := hid (HBD.out.trans (hb5.mono HBD.out.size))
      have hx5 := HXL.out w5 HB35.out
      clear l4 hb5
      cases m with
      | false =>
        have HN : Hid (getK l = none) := hid (getK_may HY.out (by rw [← HRB.out]; exact HM.out))
        obtain ⟨rfl, hs, hbv⟩ := HNO.out HN.out w5 HR5.out HB5.out
        have hbz := HBZ.out
        have HBV := hid hbv
        clear hbv hx5
        go_wp2_with fail
        refine bodyPost_ret (results_kb rfl _ _ _ _ _ _ rfl rfl HR5.out HSZ.out) rfl ?_
        exact ⟨_, rfl, HBV.out, HB5.out⟩
      | true =>
        have hget := getK_done HY.out HD1.out HD2.out (by rw [← HRB.out]; exact HM.out)
        rw [← HRB.out] at hget
        have HGK : Hid (gotK l = readB l) := hid (by unfold gotK; rw [hget]; rfl)
        obtain rfl : er = 0 := by
          rw [← HER.out]
          unfold isK
          rw [hget]
          rfl
        have l5 := hx5.1
        have hs5 := storeK_eq (C := X) HR5.out HSZ.out HX36.out HX1.out
        have HG := hid (setK_same (C := X) HR5.out)
        have HB6 := hid (setK_below (C := X) HB5.out (Nat.le_refl _))
        have HRZ := hid (lt_of_block HR5.out)
        clear hx5 hget
        go_wp2_with fail
        refine bodyPost_ret (results_kb rfl _ _ _ _ _ _ rfl rfl HG.out HX36.out) rfl ?_
        refine ⟨_, rfl, ?_, HB6.out⟩
        rw [HGK.out]
        exact HN2.out _ _ _ (HB23.out _ HB35.out) HL1.out
end Go.Proofs.YtekfkfpfnhoblaaDoor

/-
  What block's functions tell: bkCheck_ok, bkPut_ok, bkGet_ok, bkHash_ok, bkFirst_ok, bkSame_ok, bkCopy_ok.
-/

/-
  BlockPuts: which blocks there may be, any one's bytes and hash, that it is got, and which are alike: the law's walk, from what block's functions tell.
-/
namespace Go.Proofs.YtekfkfpfnhoblaaDoor
set_option maxRecDepth 20000
open Go.RowKit
attribute [local go_sem ↓] exec_load_bk exec_alloc_bk exec_store_bk

/-- Two boxed blocks. -/
def Two (g : Nat) (CA CB : Array Value) (W : World) : Prop := W.heap[g]? = some (.cells CA 26 (0, 0)) ∧ W.heap[g + 1]? = some (.cells CB 26 (0, 0))

set_option maxHeartbeats 6400000 in
theorem lawBlockPuts_any (hC : BkCheckOk) (hP : BkPutOk) (hG : BkGetOk) (hH : BkHashOk) (hS : BkSameOk) (hY : BkCopyOk) (hA : ∀ w, Kst 1 w → Calls Tryd.prog 7 #[] w fun e w' => e = .returned (.bool true) ∧ Below w.heap.size w w')
    (va vb : Value) (a b : BkM) (w : World) (hva : BkV w va a) (hvb : BkV w vb b) (hla : ∀ t ∈ a.txs, t.key.length ≤ maxLen ∧ t.val.length ≤ maxLen) (hlb : ∀ t ∈ b.txs, t.key.length ≤ maxLen ∧ t.val.length ≤ maxLen) (hK1 : Kst 1 w) (hK0 : Kst 0 w) :
    Calls Tryd.prog 3 #[va, vb] w fun e w' => e = .returned (.bool true) ∧ Below w.heap.size w w' := by
  have HA : Hid (∀ W, Below w.heap.size w W → Calls Tryd.prog 7 #[] W fun e w' => e = .returned (.bool true) ∧ Below W.heap.size W w') := hid (fun W h => hA W (hK1.below h))
  have HVA := hid (fun W (h : Below w.heap.size w W) => hva.below h)
  have HVB := hid (fun W (h : Below w.heap.size w W) => hvb.below h)
  have HKA := hid (fun W (h : Below w.heap.size w W) => (show Kst 0 W from hK0.below h))
  have HKB := hid (fun W (h : Below w.heap.size w W) => (show Kst 1 W from hK1.below h))
  obtain ⟨sa, ea, hpa, hta⟩ := hva
  obtain ⟨sb, eb, hpb, htb⟩ := hvb
  obtain ⟨CA, HCA⟩ : ∃ C : Array Value, Hid (bkc a sa = C) := ⟨_, hid rfl⟩
  obtain ⟨CB, HCB⟩ : ∃ C : Array Value, Hid (bkc b sb = C) := ⟨_, hid rfl⟩
  rw [HCA.out] at ea
  rw [HCB.out] at eb
  subst ea eb
  have HSA : Hid (CA.size = 36) := hid (by rw [← HCA.out]; exact bkc_size _ hpa)
  have HSB : Hid (CB.size = 36) := hid (by rw [← HCB.out]; exact bkc_size _ hpb)
  have HLA : Hid (∀ W, Below w.heap.size w W → Calls Tryd.prog 6 #[.agg CA] W fun e w' => e = .returned (.bool (litK a)) ∧ Below W.heap.size W w') := hid (fun W h => light7_any _ a W (HVA.out W h) hla)
  have HLB : Hid (∀ W, Below w.heap.size w W → Calls Tryd.prog 6 #[.agg CB] W fun e w' => e = .returned (.bool (litK b)) ∧ Below W.heap.size W w') := hid (fun W h => light7_any _ b W (HVB.out W h) hlb)
  obtain ⟨qa, HQA⟩ : ∃ q : Bool, Hid (litK a = q) := ⟨_, hid rfl⟩
  obtain ⟨qb, HQB⟩ : ∃ q : Bool, Hid (litK b = q) := ⟨_, hid rfl⟩
  rw [HQA.out] at HLA
  rw [HQB.out] at HLB
  have hr0 := heap1 w (.cells CA 26) (.cells CB 26)
  have hr1 := heap2 w (.cells CA 26) (.cells CB 26)
  have hb0 : Below w.heap.size w ((w.alloc (.cells CA 26)).alloc (.cells CB 26)) := ((Below.refl _ _).alloc (Nat.le_refl _) _).alloc (by simp) _
  clear hla hlb hta htb hK0 hK1 hA HCA HCB
  go_enter Tryd.func3, Tryd.ntmps3
  go_upto_region 1 with (fail)
  generalize ((w.alloc (.cells CA 26)).alloc (.cells CB 26)) = w0 at *
  have hl1 := lt_of_block hr1
  have HTW : Hid (∀ W, Below w0.heap.size w0 W → Two w.heap.size CA CB W) := hid (fun W h => ⟨(h.block _ (by omega)).trans hr0, (h.block _ hl1).trans hr1⟩)
  have hldA : ∀ W : World, Two w.heap.size CA CB W → loadK (.pointer (some ⟨w.heap.size, 0, none⟩)) W = .ok (.value (.agg CA)) W := fun W h => loadK_row h.1 HSA.out
  have hldB : ∀ W : World, Two w.heap.size CA CB W → loadK (.pointer (some ⟨w.heap.size + 1, 0, none⟩)) W = .ok (.value (.agg CB)) W := fun W h => loadK_row h.2 HSB.out
  have HDA := hid hldA
  have HDB := hid hldB
  have t0 := HTW.out w0 (Below.refl _ _)
  have la := hldA w0 t0
  clear hldA hldB t0 hr0 hr1 hl1
  go_wp2_with fail
  refine (HLA.out w0 hb0).mono ?_
  rintro e w1 ⟨rfl, hb1⟩
  have hB1 := hb0.trans (hb1.mono hb0.size)
  clear la
  cases qa with
  | false =>
    go_wp2_with fail
    refine (HA.out w1 hB1).mono ?_
    rintro e w2 ⟨rfl, hb2⟩
    go_wp2_with fail
    go_ret
    exact ⟨rfl, hB1.trans (hb2.mono hB1.size)⟩
  | true =>
    have lb := HDB.out w1 (HTW.out w1 hb1)
    go_wp2_with fail
    refine (HLB.out w1 hB1).mono ?_
    rintro e w2 ⟨rfl, hb2'⟩
    have hB2 := hB1.trans (hb2'.mono hB1.size)
    have hb2 := hb1.trans (hb2'.mono hb1.size)
    clear lb hb1 hb2'
    cases qb with
    | false =>
      go_wp2_with fail
      refine (HA.out w2 hB2).mono ?_
      rintro e w3 ⟨rfl, hb3⟩
      go_wp2_with fail
      go_ret
      exact ⟨rfl, hB2.trans (hb3.mono hB2.size)⟩
    | true =>
      have HLK := hid (lightK_of HQA.out)
      obtain ⟨m, HM⟩ : ∃ m : Bool, Hid (mayK a = m) := ⟨_, hid rfl⟩
      obtain ⟨er, HER⟩ : ∃ n : Int, Hid ((if m = true then (0 : Int) else 1) = n) := ⟨_, hid rfl⟩
      obtain ⟨O, HO⟩ : ∃ O : List UInt8, Hid ((if mayK a = true then bytesK a else []) = O) := ⟨_, hid rfl⟩
      have HPT : Hid (∀ W, Below w.heap.size w W → Calls Tryd.prog 8 #[.agg CA] W fun e w' => ∃ x, e = .returned (.tuple #[x, .int .i64 er]) ∧ Byt w' x O ∧ Below W.heap.size W w') := hid (fun W h => by
        have := hP _ a W (HVA.out W h) HLK.out
        rw [HO.out, HM.out, HER.out] at this
        exact this)
      have HMA : Hid (∀ W, Below w.heap.size w W → Calls Tryd.prog 9 #[.agg CA] W fun e w' => e = .returned (.bool m) ∧ Below W.heap.size W w') := hid (fun W h => by
        have := refMay7_any _ a W (HVA.out W h) HLK.out
        rw [HM.out] at this
        exact this)
      have HCK : Hid (∀ W, Below w.heap.size w W → Calls Tryd.prog 10 #[.agg CA] W fun e w' => e = .returned (.int .i64 er) ∧ Below W.heap.size W w') := hid (fun W h => by
        have := hC _ a W (HVA.out W h) HLK.out
        rw [HM.out, HER.out] at this
        exact this)
      obtain ⟨D, HD⟩ : ∃ D : Array Value, Hid (fcells 32 (fun j => bcell (hashK a j)) = D) := ⟨_, hid rfl⟩
      have HHC : Hid (∀ W, Below w.heap.size w W → Calls Tryd.prog 11 #[.agg CA] W fun e w' => e = .returned (.agg D) ∧ Below W.heap.size W w') := hid (fun W h => by
        have := hH _ a W (HVA.out W h) HLK.out (HKB.out W h)
        rw [HD.out] at this
        exact this)
      have HHR : Hid (∀ W, Below w.heap.size w W → Calls Tryd.prog 12 #[.agg CA] W fun e w' => e = .returned (.agg D) ∧ Below W.heap.size W w') := hid (fun W h => by
        have := refHash7_any _ a W (HVA.out W h) HLK.out (HKA.out W h)
        rw [HD.out] at this
        exact this)
      obtain ⟨sm, HSM⟩ : ∃ m : Bool, Hid (sameK a b = m) := ⟨_, hid rfl⟩
      have HSC : Hid (∀ W, Below w.heap.size w W → Calls Tryd.prog 13 #[.agg CA, .agg CB] W fun e w' => e = .returned (.bool sm) ∧ Below W.heap.size W w') := hid (fun W h => by
        have := hS _ _ a b W (HVA.out W h) (HVB.out W h)
        rw [HSM.out] at this
        exact this)
      have HSR : Hid (∀ W, Below w.heap.size w W → Calls Tryd.prog 14 #[.agg CA, .agg CB] W fun e w' => e = .returned (.bool sm) ∧ Below W.heap.size W w') := hid (fun W h => by
        have := refSame7_any _ _ a b W (HVA.out W h) (HVB.out W h)
        rw [HSM.out] at this
        exact this)
      have HSY : Hid (∀ x W, Below w.heap.size w W → BkV W x a → Calls Tryd.prog 14 #[x, .agg CA] W fun e w' => e = .returned (.bool true) ∧ Below W.heap.size W w') := hid (fun x W h hx => by
        have := refSame7_any x _ a a W hx (HVA.out W h)
        rw [sameK_self] at this
        exact this)
      have HCP : Hid (∀ W, Below w.heap.size w W → Calls Tryd.prog 15 #[.agg CA] W fun e w' => ∃ x, e = .returned x ∧ BkNew W.heap.size w' x a ∧ Below W.heap.size W w') := hid (fun W h => hY _ a W (HVA.out W h) (Nat.le_trans (litK_len HQA.out) (by decide)))
      have heq := hash_same D (hashK a) HD.out
      have la := HDA.out w2 (HTW.out w2 hb2)
      clear hP hC hH hS hY
      go_wp2_with fail
      refine (HPT.out w2 hB2).mono ?_
      rintro e w3 ⟨x3, rfl, hx3, hb3'⟩
      have hB3 := hB2.trans (hb3'.mono hB2.size)
      have hb3 := hb2.trans (hb3'.mono hb2.size)
      obtain ⟨A3, c3, rfl⟩ := hx3.shape
      obtain ⟨n3, HN3⟩ : ∃ n : Nat, Hid (O.length = n) := ⟨_, hid rfl⟩
      rw [HN3.out] at hx3 ⊢
      have la3 := HDA.out w3 (HTW.out w3 hb3)
      clear la hb2 hb3' hB2
      go_wp2_with fail
      refine (HMA.out w3 hB3).mono ?_
      rintro e w4 ⟨rfl, hb4'⟩
      have hB4 := hB3.trans (hb4'.mono hB3.size)
      have hb4 := hb3.trans (hb4'.mono hb3.size)
      have hx4 := hx3.below hb4'
      clear la3 hb3 hb4' hB3 hx3
      have hbd : Below w4.heap.size w4 w4.drew := (Below.refl _ _).drew
      have hldA := HDA.out
      have hldB := HDB.out
      have HS : Hid (∀ W : World, Below w4.heap.size w4 W → Two w.heap.size CA CB W) := hid (fun W h => HTW.out W (hb4.trans (h.mono hb4.size)))
      have HBL : Hid (∀ W : World, Below w4.heap.size w4 W → Below w.heap.size w W) := hid (fun W h => hB4.trans (h.mono hB4.size))
      go_upto_region 5 with (fail)
      cases m with
      | false =>
        obtain rfl : er = 1 := HER.out.symm
        have HO0 : Hid (O = []) := hid (by rw [← HO.out, if_neg (by rw [HM.out]; decide)])
        obtain rfl : n3 = 0 := by rw [← HN3.out, HO0.out]; rfl
        cases sm
        all_goals
          go_region_held3 (fun W => Two w.heap.size CA CB W)
            (first
              | (refine HS.out _ hbd)
              | (refine HS.out _ hb11)
              | (refine HS.out _ hb10)
              | (refine HS.out _ hb9)
              | (refine HS.out _ hb8)
              | (refine HS.out _ hb7)
              | (refine HS.out _ hb6)
              | (refine HS.out _ hb5)
              | fail)
            (first
              | (go_at_call 14; (with_reducible refine (HSY.out x10 _ (HBL.out _ hb10) hx10.bk).mono ?_); rintro e w11 ⟨rfl, hb11'⟩; have hb11 := hb10.trans (hb11'.mono hb10.size))
              | (go_at_call 15; (with_reducible refine (HCP.out _ (HBL.out _ hb9)).mono ?_); rintro e w10 ⟨x10, rfl, hx10, hb10'⟩; have hb10 := hb9.trans (hb10'.mono hb9.size))
              | (go_at_call 14; (with_reducible refine (HSR.out _ (HBL.out _ hb8)).mono ?_); rintro e w9 ⟨rfl, hb9'⟩; have hb9 := hb8.trans (hb9'.mono hb8.size))
              | (go_at_call 13; (with_reducible refine (HSC.out _ (HBL.out _ hb7)).mono ?_); rintro e w8 ⟨rfl, hb8'⟩; have hb8 := hb7.trans (hb8'.mono hb7.size))
              | (go_at_call 12; (with_reducible refine (HHR.out _ (HBL.out _ hb6)).mono ?_); rintro e w7 ⟨rfl, hb7'⟩; have hb7 := hb6.trans (hb7'.mono hb6.size))
              | (go_at_call 11; (with_reducible refine (HHC.out _ (HBL.out _ hb5)).mono ?_); rintro e w6 ⟨rfl, hb6'⟩; have hb6 := hb5.trans (hb6'.mono hb5.size))
              | (go_at_call 10; (with_reducible refine (HCK.out _ (HBL.out _ hbd)).mono ?_); rintro e w5 ⟨rfl, hb5'⟩; have hb5 := hbd.trans (hb5'.mono hbd.size))
              | fail)
          go_wp2_with fail
          have hB11 := HBL.out _ hb11
          refine (HA.out w11 hB11).mono ?_
          rintro e w12 ⟨rfl, hb12⟩
          go_wp2_with fail
          go_ret
          exact ⟨rfl, hB11.trans (hb12.mono hB11.size)⟩
      | true =>
        obtain rfl : er = 0 := HER.out.symm
        cases sm
        all_goals
          go_region_held3 (fun W => Two w.heap.size CA CB W)
            (first
              | (refine HS.out _ hbd)
              | (refine HS.out _ hb11)
              | (refine HS.out _ hb10)
              | (refine HS.out _ hb9)
              | (refine HS.out _ hb8)
              | (refine HS.out _ hb7)
              | (refine HS.out _ hb6)
              | (refine HS.out _ hb5)
              | fail)
            (first
              | (go_at_call 14; (with_reducible refine (HSY.out x10 _ (HBL.out _ hb10) hx10.bk).mono ?_); rintro e w11 ⟨rfl, hb11'⟩; have hb11 := hb10.trans (hb11'.mono hb10.size))
              | (go_at_call 15; (with_reducible refine (HCP.out _ (HBL.out _ hb9)).mono ?_); rintro e w10 ⟨x10, rfl, hx10, hb10'⟩; have hb10 := hb9.trans (hb10'.mono hb9.size))
              | (go_at_call 14; (with_reducible refine (HSR.out _ (HBL.out _ hb8)).mono ?_); rintro e w9 ⟨rfl, hb9'⟩; have hb9 := hb8.trans (hb9'.mono hb8.size))
              | (go_at_call 13; (with_reducible refine (HSC.out _ (HBL.out _ hb7)).mono ?_); rintro e w8 ⟨rfl, hb8'⟩; have hb8 := hb7.trans (hb8'.mono hb7.size))
              | (go_at_call 12; (with_reducible refine (HHR.out _ (HBL.out _ hb6)).mono ?_); rintro e w7 ⟨rfl, hb7'⟩; have hb7 := hb6.trans (hb7'.mono hb6.size))
              | (go_at_call 11; (with_reducible refine (HHC.out _ (HBL.out _ hb5)).mono ?_); rintro e w6 ⟨rfl, hb6'⟩; have hb6 := hb5.trans (hb6'.mono hb5.size))
              | (go_at_call 10; (with_reducible refine (HCK.out _ (HBL.out _ hbd)).mono ?_); rintro e w5 ⟨rfl, hb5'⟩; have hb5 := hbd.trans (hb5'.mono hbd.size))
              | fail)
          have hB11 := HBL.out _ hb11
          have hx11 := hx4.below hb11
          have HS11 := hid (fun W (h : Below w11.heap.size w11 W) => HS.out W (hb11.trans (h.mono hb11.size)))
          have hOB : O = bytesK a := by rw [← HO.out, if_pos HM.out]
          have HOB := hid hOB
          have HOL : Hid (O.length ≤ 1000000) := hid (by rw [hOB]; exact Nat.le_trans (bytesK_len hpa HM.out) (by decide))
          have C := hG _ O w11 hx11 HOL.out
          rw [hOB, show isK (bytesK a) = true from by unfold isK; rw [getK_back hpa HM.out]; rfl, show gotK (bytesK a) = a from by unfold gotK; rw [getK_back hpa HM.out]; rfl, if_pos rfl] at C
          have HC12 := hid C
          clear C hOB hldA hldB heq hbd
          go_wp2_with fail
          refine HC12.out.mono ?_
          rintro e w12 ⟨x12, rfl, hx12, hb12⟩
          have hB12 := hB11.trans (hb12.mono hB11.size)
          have hx12' := hx11.below hb12
          obtain ⟨X, rfl, hX36, hX1, hXs, hXl⟩ := told_var hx12
          have HXL := hid hXl
          obtain ⟨Z, HZ⟩ : ∃ C : Array Value, Hid (bkc bkZ (.slice none 0 0) = C) := ⟨_, hid rfl⟩
          have hal : ∀ W, allocK W = .ok (.value (.pointer (some ⟨W.heap.size, 0, none⟩))) (W.alloc (.cells Z 26)) := fun W => by rw [← HZ.out]; exact allocK_eq W
          have hs12 := hXs Z (by rw [← HZ.out]; exact bkc_size _ bkZ_par)
          have hbn : Below w12.heap.size w12 (w12.alloc (.cells X 26)) := (Below.refl _ _).alloc (Nat.le_refl _) _
          have hB13 := hB12.trans (hbn.mono hB12.size)
          have hb13 := hb12.trans (hbn.mono hb12.size)
          have hx13 := hx12'.below hbn
          clear hXs hXl hx12 hx12' hbn hX36 hX1 hb12 hB12 hx11 hB11 HC12
          go_upto_region 10 with (fail)
          generalize w12.alloc (.cells X 26) = w13 at *
          clear hs12 hal
          have la13 := HDA.out w13 (HS11.out w13 hb13)
          go_wp2_with fail
          refine (refPut7_any _ a w13 (HVA.out _ hB13) HM.out).mono ?_
          rintro e w14 ⟨x14, rfl, ho14, hb14⟩
          have hB14 := hB13.trans (hb14.mono hB13.size)
          have hx14 := hx13.below hb14
          clear la13 hx13
          go_wp2_with fail
          refine (same_yes _ x14 O w14 hx14 (by rw [HOB.out]; exact ho14.byt)).mono ?_
          rintro e w15 ⟨rfl, k15, hw15⟩
          have hb15 : Below w13.heap.size w13 w15 := by rw [hw15]; exact below_drewN hb14 k15
          have hB15 : Below w.heap.size w w15 := by rw [hw15]; exact below_drewN hB14 k15
          clear hw15 ho14 hx14 hb14 hB14
          obtain ⟨lx15, bx15⟩ := HXL.out w15 hb15
          have HBX := hid bx15
          have la15 := HDA.out w15 (HS11.out w15 (hb13.trans (hb15.mono hb13.size)))
          clear bx15
          go_wp2_with fail
          refine (HSY.out (.agg X) w15 hB15 HBX.out).mono ?_
          rintro e w16 ⟨rfl, hb16⟩
          have hB16 := hB15.trans (hb16.mono hB15.size)
          clear lx15 la15
          go_wp2_with fail
          refine (HA.out w16 hB16).mono ?_
          rintro e w17 ⟨rfl, hb17⟩
          go_wp2_with fail
          go_ret
          exact ⟨rfl, hB16.trans (hb17.mono hB16.size)⟩
end Go.Proofs.YtekfkfpfnhoblaaDoor

/-
  Operations behind a guard that says no, hidden under a name: the walk of a region branches over them, and tries none; a step over such a one ahead of a region's tail. No function of the program.
-/
namespace Go.Proofs.YtekfkfpfnhoblaaDoor
set_option maxRecDepth 20000
open Go.RowKit

def opOff (o : Op) (_ : Nat) : Op := o
section
variable (n : Nat) (b : Bool) (d : Option Tmp) (ty : TypeId) (pos : String) (af : Array Edge)
theorem off_move (x : Operand) : (⟨d, .move x, ty, pos, af, some (n, b)⟩ : Oper) = ⟨d, opOff (.move x) 0, ty, pos, af, some (n, b)⟩ := rfl
theorem off_addr (t : TypeId) (x : Operand) (k : Nat) : (⟨d, .fieldAddr t x k, ty, pos, af, some (n, b)⟩ : Oper) = ⟨d, opOff (.fieldAddr t x k) 0, ty, pos, af, some (n, b)⟩ := rfl
theorem off_load (t : TypeId) (x : Operand) : (⟨d, .load t x, ty, pos, af, some (n, b)⟩ : Oper) = ⟨d, opOff (.load t x) 0, ty, pos, af, some (n, b)⟩ := rfl
theorem off_bin (o : BinOp) (t : TypeId) (x y : Operand) (u : TypeId) : (⟨d, .binOp o t x y u, ty, pos, af, some (n, b)⟩ : Oper) = ⟨d, opOff (.binOp o t x y u) 0, ty, pos, af, some (n, b)⟩ := rfl
theorem off_un (o : UnOp) (t : TypeId) (x : Operand) : (⟨d, .unOp o t x, ty, pos, af, some (n, b)⟩ : Oper) = ⟨d, opOff (.unOp o t x) 0, ty, pos, af, some (n, b)⟩ := rfl
theorem off_pick (x y z : Operand) : (⟨d, .pick x y z, ty, pos, af, some (n, b)⟩ : Oper) = ⟨d, opOff (.pick x y z) 0, ty, pos, af, some (n, b)⟩ := rfl
theorem off_slice (t : TypeId) (x : Operand) (i j k : Option Operand) : (⟨d, .slice t x i j k, ty, pos, af, some (n, b)⟩ : Oper) = ⟨d, opOff (.slice t x i j k) 0, ty, pos, af, some (n, b)⟩ := rfl
theorem off_call (c : Call) : (⟨d, .call c, ty, pos, af, some (n, b)⟩ : Oper) = ⟨d, opOff (.call c) 0, ty, pos, af, some (n, b)⟩ := rfl
theorem off_conv (s t : TypeId) (x : Operand) : (⟨d, .convert s t x, ty, pos, af, some (n, b)⟩ : Oper) = ⟨d, opOff (.convert s t x) 0, ty, pos, af, some (n, b)⟩ := rfl
end
/-- An operation whose guard says no, among those that come ahead of a region's tail. -/
theorem wpStill_off {P : Program} {ops : Array Oper} {w : World} {Q : Act → Prop} {o : Oper} {rest : List Oper} {a : Act} (h : Region.wanted o (yielded ops a.tmps) = false) (k : wpStill P ops w Q rest (a.put o.dst undef)) : wpStill P ops w Q (o :: rest) a := by
  unfold wpStill
  rw [h, if_neg (by decide)]
  exact k
end Go.Proofs.YtekfkfpfnhoblaaDoor
