/-
  Turn Run Fill KeepN RefFill RefBits: what each of them says stands at its head.
-/
import Derived.Test.YtekfkfpfnhoblaaDoorMg6
/-
  sha.Turn gives the state behind a block.
-/
namespace Go.Proofs.YtekfkfpfnhoblaaDoor
set_option maxRecDepth 20000
open Go.RowKit

/-- A variable of the package's holds the constants. -/
def Kst (g : Nat) (w : World) : Prop := g < w.heap.size ∧ ∀ j, j < 64 → w.cell? ⟨g, j, none⟩ = some (.int .u32 (wv (kc j)))
theorem Kst.below {g : Nat} {w w' : World} (h : Kst g w) (hb : Below w.heap.size w w') : Kst g w' :=
  ⟨Nat.lt_of_lt_of_le h.1 hb.size, fun j hj => (hb.cell (p := ⟨g, j, none⟩) h.1).trans (h.2 j hj)⟩
theorem Kst.grown {g : Nat} {w w' : World} (h : Kst g w) {row : Option Nat} (hg : w.grownBy w' row) (hr : row ≠ some g) : Kst g w' :=
  ⟨Nat.lt_of_lt_of_le h.1 hg.size, fun j hj => (World.cell?_of_block (hg.block g h.1 (fun e => hr e.symm))).trans (h.2 j hj)⟩

theorem bg1_still (x : UInt32) (w : World) : Calls Tryd.prog 78 #[.int .u32 (wv x)] w fun e w' => e = .returned (.int .u32 (wv (bg1 x))) ∧ w' = w := (bg1_any x w).mono fun _ _ ⟨h, h2⟩ => ⟨h, h2.symm⟩
theorem chc_still (x y z : UInt32) (w : World) : Calls Tryd.prog 79 #[.int .u32 (wv x), .int .u32 (wv y), .int .u32 (wv z)] w fun e w' => e = .returned (.int .u32 (wv (chc x y z))) ∧ w' = w := (chc_any x y z w).mono fun _ _ ⟨h, h2⟩ => ⟨h, h2.symm⟩
theorem bg0_same (x : UInt32) (w : World) : Calls Tryd.prog 80 #[.int .u32 (wv x)] w fun e w' => e = .returned (.int .u32 (wv (bg0 x))) ∧ w = w' := bg0_any x w
theorem maj_same (x y z : UInt32) (w : World) : Calls Tryd.prog 81 #[.int .u32 (wv x), .int .u32 (wv y), .int .u32 (wv z)] w fun e w' => e = .returned (.int .u32 (wv (maj x y z))) ∧ w = w' := maj_any x y z w

theorem wv_sum5 (a b c d e : UInt32) : (wv a + wv b + wv c + wv d + wv e) % 4294967296 = wv (a + b + c + d + e) := by
  rw [← wv_add (a + b + c + d) e, ← wv_sum4]
  omega

theorem quiet2 {P : Program} {f : FuncId} {args : Array Value} {w : World} {n m : Nat} {v : Value}
    (h : Calls P f args (w.drewN (n + m)) fun e w' => e = .returned v ∧ w' = w.drewN (n + m)) : Calls P f args (w.drewN (n + m)) fun e w'' => e = .returned v ∧ ∃ k, w'' = w.drewN (n + k) :=
  h.mono fun _ _ ⟨he, hm⟩ => ⟨he, m, hm⟩

/-- Eight words as they are built. -/
def eight (v : Nat → Value) : Array Value := #[v 0, v 1, v 2, v 3, v 4, v 5, v 6, v 7]
theorem eight_eq (v : Nat → Value) : eight v = fcells 8 v := rfl

set_option maxHeartbeats 3200000 in
set_option maxRecDepth 100000 in
theorem turn_any (s : Nat → UInt32) (b : Nat → UInt8) (w : World) (hK : Kst 1 w) :
    Calls Tryd.prog 66 #[.agg (fcells 8 fun j => wc (s j)), .agg (fcells 64 fun j => bcell (b j))] w fun e w' => e = .returned (.agg (fcells 8 fun j => wc (turnS s b j))) ∧ Below w.heap.size w w' := by
  have h1 := hK.1
  go_enter Tryd.func66, Tryd.ntmps66
  go_wp2_with (refine wpList_alloc_arr arrS rfl rfl ?_)
  have hA : Blk (((w.alloc (.cells (fcells 8 fun j => wc (s j)) 77)).alloc (.cells (fcells 64 fun j => bcell (b j)) 79)).alloc (.cells (fcells 8 fun _ => wc 0) 77)) w.heap.size 8 (fun j => wc (s j)) 77 := ((Blk.new w _ _ _).alloc _).alloc _
  have hB : Blk (((w.alloc (.cells (fcells 8 fun j => wc (s j)) 77)).alloc (.cells (fcells 64 fun j => bcell (b j)) 79)).alloc (.cells (fcells 8 fun _ => wc 0) 77)) (w.heap.size + 1) 64 (fun j => bcell (b j)) 79 := Blk.alloc (heap_alloc2_new w _ _) _
  have hC : Blk (((w.alloc (.cells (fcells 8 fun j => wc (s j)) 77)).alloc (.cells (fcells 64 fun j => bcell (b j)) 79)).alloc (.cells (fcells 8 fun _ => wc 0) 77)) (w.heap.size + 1 + 1) 8 (fun _ => wc 0) 77 := by
    have := Blk.new ((w.alloc (.cells (fcells 8 fun j => wc (s j)) 77)).alloc (.cells (fcells 64 fun j => bcell (b j)) 79)) 8 (fun _ => wc 0) 77
    simpa using this
  have hbw : Below w.heap.size w (((w.alloc (.cells (fcells 8 fun j => wc (s j)) 77)).alloc (.cells (fcells 64 fun j => bcell (b j)) 79)).alloc (.cells (fcells 8 fun _ => wc 0) 77)) := (((Below.refl _ _).alloc (Nat.le_refl _) _).alloc (by simp) _).alloc (by simp; omega) _
  have hsz : (((w.alloc (.cells (fcells 8 fun j => wc (s j)) 77)).alloc (.cells (fcells 64 fun j => bcell (b j)) 79)).alloc (.cells (fcells 8 fun _ => wc 0) 77)).heap.size = w.heap.size + 3 := by simp
  have hp : ((w.alloc (.cells (fcells 8 fun j => wc (s j)) 77)).alloc (.cells (fcells 64 fun j => bcell (b j)) 79)).heap.size = w.heap.size + 1 + 1 := by simp
  rw [hp]
  clear hp
  generalize (((w.alloc (.cells (fcells 8 fun j => wc (s j)) 77)).alloc (.cells (fcells 64 fun j => bcell (b j)) 79)).alloc (.cells (fcells 8 fun _ => wc 0) 77)) = w0 at *
  have Hsz := hid hsz
  clear hsz
  have hl0 := hA.cell (i := 0) (by omega)
  have hl1 := hA.cell (i := 1) (by omega)
  have hl2 := hA.cell (i := 2) (by omega)
  have hl3 := hA.cell (i := 3) (by omega)
  have hl4 := hA.cell (i := 4) (by omega)
  have hl5 := hA.cell (i := 5) (by omega)
  have hl6 := hA.cell (i := 6) (by omega)
  have hl7 := hA.cell (i := 7) (by omega)
  unfold wc at hl0 hl1 hl2 hl3 hl4 hl5 hl6 hl7
  go_wp2
  go_quiet (fail)
  go_wp2_with fail
  have hq0 : Below w.heap.size w (w0.drewN nq) := below_drewN hbw _
  refine (words_any b (w.heap.size + 1) _ (w0.drewN nq) (hB.drewN _)).mono ?_
  rintro e w1 ⟨rfl, hb1⟩
  obtain ⟨WA, HWA⟩ : ∃ WA : Value, Hid (Value.agg (fcells 64 fun j => wc (wd b j)) = WA) := ⟨_, hid rfl⟩
  rw [HWA.out]
  have hidx : ∀ (i : Nat), i < 64 → ∀ w, (Instr.index 103 WA (.int .i64 (i : Int))).run Tryd.prog w = .ok (.int .u32 (wv (wd b i))) w := fun i hi w => by
    rw [← HWA.out]
    exact arrW.run_index _ hi w
  have hbw1 : Below w.heap.size w w1 := hq0.trans (hb1.mono (by show w.heap.size ≤ w0.heap.size; have := Hsz.out; omega))
  have hA1 : Blk w1 w.heap.size 8 (fun j => wc (s j)) 77 := Blk.keep (w := w0.drewN nq) hA hb1
  have hC1 : Blk w1 (w.heap.size + 1 + 1) 8 (fun _ => wc 0) 77 := Blk.keep (w := w0.drewN nq) hC hb1
  have hK1 := hK.below hbw1
  clear hl0 hl1 hl2 hl3 hl4 hl5 hl6 hl7 hq0 hb1 hA hB hC hbw Hsz
  go_wp2_with fail
  go_loopw [5, 6, 7, 8, 9, 10, 11, 12, 34] (fun a0 a1 a2 a3 a4 a5 a6 a7 si wr => ∃ (i : Nat) (xa xb xc xd xe xf xg xh : UInt32), i ≤ 64 ∧ si = .int .i64 i ∧ Hid (rnds (wd b) i (St.of s) = ⟨xa, xb, xc, xd, xe, xf, xg, xh⟩) ∧ a0 = .int .u32 (wv xa) ∧ a1 = .int .u32 (wv xb) ∧ a2 = .int .u32 (wv xc) ∧ a3 = .int .u32 (wv xd) ∧ a4 = .int .u32 (wv xe) ∧ a5 = .int .u32 (wv xf) ∧ a6 = .int .u32 (wv xg) ∧ a7 = .int .u32 (wv xh) ∧ ∃ n, wr = w1.drewN n) (fun _ _ _ _ _ _ _ _ si _ => 64 - (intOf si).toNat)
  case atStart => exact ⟨0, s 0, s 1, s 2, s 3, s 4, s 5, s 6, s 7, by omega, rfl, hid rfl, rfl, rfl, rfl, rfl, rfl, rfl, rfl, rfl, 0, rfl⟩
  case round =>
    obtain ⟨i, xa, xb, xc, xd, xe, xf, xg, xh, hi, rfl, HV, rfl, rfl, rfl, rfl, rfl, rfl, rfl, rfl, n, rfl⟩ := hrel
    by_cases hlt : i < 64
    · have hx := hidx i hlt
      have hk := hK1.2 i hlt
      have hi64 : (i : Int) < 64 := by omega
      have h11 := hK1.1
      clear hidx
      go_wp2_with fail
      go_quiet ((first
        | (go_at_call 78; exact quiet2 (bg1_still _ _))
        | (go_at_call 79; exact quiet2 (chc_still _ _ _ _))))
      go_wp2_with (first
        | (go_at_call 80; refine (bg0_same _ _).mono ?_; rintro e w' ⟨rfl, rfl⟩)
        | (go_at_call 81; refine (maj_same _ _ _ _).mono ?_; rintro e w' ⟨rfl, rfl⟩))
      go_roundw
      case rel =>
        exact ⟨i + 1, (xh + bg1 xe + chc xe xf xg + kc i + wd b i) + (bg0 xa + maj xa xb xc), xa, xb, xc, xd + (xh + bg1 xe + chc xe xf xg + kc i + wd b i), xe, xf, xg, by omega, by go_num, hid (by unfold rnds; rw [HV.out]; rfl), by rw [wv_sum5, wv_add, wv_add], rfl, rfl, rfl, by rw [wv_sum5, wv_add], rfl, rfl, rfl, n + nq, rfl⟩
      case measure => simp [intOf]; omega
    · have HI := hid (show i = 64 by omega)
      have hge : ¬ (i : Int) < 64 := by omega
      have hl0 := hA1.cell (i := 0) (by omega)
      have hl1 := hA1.cell (i := 1) (by omega)
      have hl2 := hA1.cell (i := 2) (by omega)
      have hl3 := hA1.cell (i := 3) (by omega)
      have hl4 := hA1.cell (i := 4) (by omega)
      have hl5 := hA1.cell (i := 5) (by omega)
      have hl6 := hA1.cell (i := 6) (by omega)
      have hl7 := hA1.cell (i := 7) (by omega)
      unfold wc at hl0 hl1 hl2 hl3 hl4 hl5 hl6 hl7
      have hltA := hA1.lt
      clear hidx
      go_wp2_with (refine wpList_store_arr arrS (f' := fun j => .int .u32 ([(wv (s 0) + wv xa) % 4294967296, (wv (s 1) + wv xb) % 4294967296, (wv (s 2) + wv xc) % 4294967296, (wv (s 3) + wv xd) % 4294967296, (wv (s 4) + wv xe) % 4294967296, (wv (s 5) + wv xf) % 4294967296, (wv (s 6) + wv xg) % 4294967296, (wv (s 7) + wv xh) % 4294967296].getD j 0)) rfl _ _ rfl rfl rfl (hC1.drewN n) (fun _ _ => rfl) ?_; intro w9 hg9 hC9 hs9)
      have hres : ∀ j, j < 8 → Value.int .u32 ([(wv (s 0) + wv xa) % 4294967296, (wv (s 1) + wv xb) % 4294967296, (wv (s 2) + wv xc) % 4294967296, (wv (s 3) + wv xd) % 4294967296, (wv (s 4) + wv xe) % 4294967296, (wv (s 5) + wv xf) % 4294967296, (wv (s 6) + wv xg) % 4294967296, (wv (s 7) + wv xh) % 4294967296].getD j 0) = wc (turnS s b j) := by
        have hv := HV.out
        rw [HI.out] at hv
        intro j hj
        unfold turnS
        rw [hv]
        obtain rfl | rfl | rfl | rfl | rfl | rfl | rfl | rfl : j = 0 ∨ j = 1 ∨ j = 2 ∨ j = 3 ∨ j = 4 ∨ j = 5 ∨ j = 6 ∨ j = 7 := by omega
        all_goals exact congrArg (Value.int .u32) (wv_add _ _)
      refine bodyPost_ret (arrS.result rfl _ _ rfl (hC9.congr hres)) rfl ⟨rfl, ?_⟩
      exact below_into (below_drewN hbw1 n) (by omega) hg9 (by show w.heap.size ≤ w1.heap.size; omega)
end Go.Proofs.YtekfkfpfnhoblaaDoor

/-
  A sum under way, in memory; sha's put goes on with bytes.
-/
namespace Go.Proofs.YtekfkfpfnhoblaaDoor
set_option maxRecDepth 20000
open Go.RowKit

/-- The cells of a sum under way: the state, the block, how many bytes there were. -/
def runf (s : Nat → UInt32) (b : Nat → UInt8) (n : Nat) (j : Nat) : Value := if j < 8 then wc (s j) else if j < 72 then bcell (b (j - 8)) else .int .u64 (n : Int)

/-- Block g is the sum under way of the bytes l. -/
def Run (w : World) (g : Nat) (l : List UInt8) : Prop :=
  ∃ b : Nat → UInt8, Blk w g 73 (runf (absb l (l.length / 64)) b l.length) 81 ∧ ∀ j, j < l.length % 64 → b j = l.getD (64 * (l.length / 64) + j) 0

theorem Run.lt {w : World} {g : Nat} {l : List UInt8} (h : Run w g l) : g < w.heap.size := by
  obtain ⟨b, hb, _⟩ := h
  exact hb.lt
theorem Run.grown {w w' : World} {g : Nat} {l : List UInt8} (h : Run w g l) {row : Option Nat} (hg : w.grownBy w' row) (hr : row ≠ some g) : Run w' g l := by
  obtain ⟨b, hb, h2⟩ := h
  exact ⟨b, hb.grown hg hr, h2⟩
theorem Run.keep {w w' : World} {g : Nat} {l : List UInt8} (h : Run w g l) (hb : Below w.heap.size w w') : Run w' g l := h.grown (grown_below hb none) (by simp)

theorem Byt.cutS {w : World} {A : Option Addr} {l : List UInt8} {c p : Nat} (h : Byt w (.slice A l.length c) l) (hp : p ≤ l.length) :
    Byt w (.slice (if c = p then A else A.map (·.add p)) (l.length - p) (c - p)) (l.drop p) := by
  obtain ⟨_, h1, h2, h3⟩ := h.at_
  refine ⟨_, c - p, by rw [List.length_drop], by rw [List.length_drop]; omega, by omega, fun hl => ?_⟩
  rw [List.length_drop] at hl
  obtain ⟨b, off, rfl, hb, hc⟩ := h3 (by omega)
  rw [if_neg (by omega)]
  refine ⟨b, off + p, by rw [Option.map_some, addr_add], hb, fun j hj => ?_⟩
  rw [List.length_drop] at hj
  rw [Nat.add_assoc, hc (p + j) (by omega), List.getElem_drop]
/-- Where a cut slice lies. -/
theorem cut_own {A : Option Addr} {n c m d p : Nat} : (Value.slice (if c = p then A else A.map (·.add p)) m d).ownBlock = (Value.slice A n c).ownBlock ∨ (Value.slice (if c = p then A else A.map (·.add p)) m d).ownBlock = none := by
  by_cases h : c = p
  · rw [if_pos h]
    cases A <;> simp [Value.ownBlock]
  · rw [if_neg h]
    rcases A with _ | ⟨b, o, sp⟩
    · simp [Value.ownBlock]
    · cases sp <;> (simp [Value.ownBlock, Addr.add]; split <;> rfl)

/-- 'b[k:]' at bytes. -/
theorem wpList_cut {ops : Array Oper} {rest : List Oper} {o : Oper} {a : Act} {w : World} {Q : Exit → Act → World → Prop} (hgd : o.guard = none) (x y : Operand) (ho : o.op = .slice 29 x (some y) none none)
    {A : Option Addr} {c k : Nat} {l : List UInt8} (hx : a.eval x = .slice A l.length c) (hy : a.eval y = .int .i64 (k : Int)) (hv : Byt w (.slice A l.length c) l) (hk : k ≤ l.length)
    (h : ∀ A' c', Byt w (.slice A' (l.length - k) c') (l.drop k) → (∀ g, (Value.slice A l.length c).ownBlock ≠ some g → (Value.slice A' (l.length - k) c').ownBlock ≠ some g) → wpList Tryd.prog ops Q rest (a.put o.dst (.slice A' (l.length - k) c')) w) :
    wpList Tryd.prog ops Q (o :: rest) a w := by
  obtain ⟨i0, hi, hz0, hz1, hz2⟩ := info_parts info_u8
  have hrun : (Instr.sliceAt 29 (.slice A l.length c) (some (.int .i64 (k : Int))) none none).run Tryd.prog w = .ok (.slice (if c = k then A else A.map (·.add k)) (l.length - k) (c - k)) w := by
    have hk2 : (k : Int) ≤ (l.length : Int) := by omega
    simp [Instr.sliceAt, Instr.slice, run_underlying under_bytes, Instr.sliceBounds, Instr.sliceBound, asIntOf, sizeOf, typeInfo, hi, hz1, hk]
  refine wpList_plain hgd fun _ hK => ?_
  unfold Oper.wp execOp
  simp only [ho, Option.map_some, Option.map_none, hx, hy, Sem.run_bind, hrun, Result.andThen_ok, Sem.run_pure]
  refine hK _ _ (h _ _ (hv.cutS hk) fun g hg => ?_)
  rcases cut_own (A := A) (n := l.length) (c := c) (m := l.length - k) (d := c - k) (p := k) with e | e
  · rw [e]; exact hg
  · rw [e]; simp

/-- copy of bytes into a block that is known whole: as an equation of runs. -/
theorem run_copy_blk {w : World} {v : Value} {m : List UInt8} (ty : TypeId) (hv : Byt w v m) {g off N dLen dCap : Nat} {F : Nat → Value} {t : TypeId} (hg : Blk w g N F t) {k : Nat} (hk : k = Nat.min m.length dLen) (h0 : 0 < k) (hfit : off + k ≤ N) :
    ∃ w', (Builtin.copy_ #[29, 29] ty #[.slice (some ⟨g, off, none⟩) dLen dCap, v]).run Tryd.prog w = .ok (.int .i64 (k : Int)) w' ∧ w.grownBy w' (some g) ∧ Blk w' g N (fun j => if off ≤ j ∧ j < off + k then bcell (m.getD (j - off) 0) else F j) t ∧ w'.heap.size = w.heap.size := by
  obtain ⟨A, c, rfl, h1, h2, hr⟩ := hv
  have hsz : (Tryd.prog.info? 5).map (·.size) = some 1 := by kernel_rfl
  have hkm : k ≤ m.length := by rw [hk]; exact Nat.min_le_left _ _
  obtain ⟨b, off2, rfl, hb, hc⟩ := hr (by omega)
  have hlen : (bcells (m.take k)).length = k := by simp [bcells]; omega
  have hrun := run_copy_row (P := Tryd.prog) w 29 29 ty 5 g off dLen dCap ⟨b, off2, none⟩ m.length c (fcells N F) t (bcells (m.take k)) under_bytes hsz hg (by rw [hlen, hk]) (fun j u hu => by
    obtain ⟨hj, rfl⟩ := bcells_get _ j u hu
    rw [addr_add]
    have hjm : j < m.length := by simp at hj; omega
    rw [hc j hjm, List.getElem_take]) (by rw [hlen, fcells_size]; exact hfit) (bcells_one _)
  have hrow : ((fcells N F).toList.take off ++ bcells (m.take k) ++ (fcells N F).toList.drop (off + (bcells (m.take k)).length)).toArray = fcells N (fun j => if off ≤ j ∧ j < off + k then bcell (m.getD (j - off) 0) else F j) := by
    apply Array.ext_getElem?
    intro j
    rw [hlen, List.getElem?_toArray]
    have ht : ((fcells N F).toList.take off).length = off := by rw [List.length_take, Array.length_toList, fcells_size]; omega
    by_cases hj : j < N
    · rw [fcells_get _ hj]
      by_cases h3 : j < off
      · rw [if_neg (by omega), List.append_assoc, List.getElem?_append_left (by omega), List.getElem?_take_of_lt h3, fcells_list, if_pos hj]
      · by_cases h4 : j < off + k
        · rw [if_pos (by omega), List.append_assoc, List.getElem?_append_right (by omega), ht, List.getElem?_append_left (by omega)]
          have hjm : j - off < m.length := by omega
          simp [bcells, List.getElem?_take_of_lt (show j - off < k by omega), hjm]
        · rw [if_neg (by omega), List.getElem?_append_right (by rw [List.length_append, ht, hlen]; omega), List.length_append, ht, hlen, List.getElem?_drop, fcells_list, if_pos (by omega)]
          rw [show off + k + (j - (off + k)) = j from by omega]
    · rw [fcells_out _ hj, List.getElem?_eq_none]
      simp [fcells_size, bcells]
      omega
  rw [hrow, hlen] at hrun
  exact ⟨_, hrun, ⟨rfl, rfl, rfl, by simp, fun q _ hq => setRow_other w g q _ (fun e => hq (by simp [e]))⟩, setRow_heap w g _ _ t _ hg, by simp⟩

theorem wpList_copy_blk {ops : Array Oper} {rest : List Oper} {o : Oper} {a : Act} {w : World} {Q : Exit → Act → World → Prop} (hgd : o.guard = none) (d s : Operand)
    (ho : o.op = .call { callee := .builtin .copy, args := #[d, s], argTypes := #[29, 29] })
    {g off N dLen dCap : Nat} {v : Value} {m : List UInt8} {F : Nat → Value} {t : TypeId} (hd : a.eval d = .slice (some ⟨g, off, none⟩) dLen dCap) (hs : a.eval s = v) (hv : Byt w v m) (hg : Blk w g N F t)
    {k : Nat} (hk : k = Nat.min m.length dLen) (h0 : 0 < k) (hfit : off + k ≤ N)
    (h : ∀ w', w.grownBy w' (some g) → Blk w' g N (fun j => if off ≤ j ∧ j < off + k then bcell (m.getD (j - off) 0) else F j) t → w'.heap.size = w.heap.size → wpList Tryd.prog ops Q rest (a.put o.dst (.int .i64 (k : Int))) w') :
    wpList Tryd.prog ops Q (o :: rest) a w := by
  obtain ⟨w', hrun, h1, h2, h3⟩ := run_copy_blk o.type (dLen := dLen) (dCap := dCap) hv hg hk h0 hfit
  refine wpList_plain hgd fun _ hK => ?_
  unfold Oper.wp
  simp [execOp, ho, resolve, invoke, builtin, hd, hs, hrun, Result.andThen]
  exact hK _ _ (h w' h1 h2 h3)

/-- What k bytes more in the block are. -/
def more (b : Nat → UInt8) (r : List UInt8) (q k j : Nat) : UInt8 := if q ≤ j ∧ j < q + k then r.getD (j - q) 0 else b j
theorem more_eq {b : Nat → UInt8} {l r : List UInt8} {T q k : Nat} (hT : l.length = T) (hq : T % 64 = q) (hb : ∀ j, j < q → b j = l.getD (64 * (T / 64) + j) 0) (j : Nat) (hj : j < q + k) :
    more b r q k j = (l ++ r.take k).getD (64 * (T / 64) + j) 0 := by
  unfold more
  by_cases h : j < q
  · rw [if_neg (by omega), hb j h, getD_left (by omega)]
  · rw [if_pos (by omega), show 64 * (T / 64) + j = l.length + (j - q) from by omega, getD_right]
    simp only [List.getD_eq_getElem?_getD]
    rw [List.getElem?_take_of_lt (by omega)]
theorem run_part {w : World} {g T q k : Nat} {b : Nat → UInt8} {l r : List UInt8} (hT : l.length = T) (hq : T % 64 = q) (hk : k ≤ r.length) (hb : ∀ j, j < q → b j = l.getD (64 * (T / 64) + j) 0) (hqk : q + k < 64)
    (hB : Blk w g 73 (runf (absb l (T / 64)) (more b r q k) (T + k)) 81) : Run w g (l ++ r.take k) := by
  have hl : (l ++ r.take k).length = T + k := by rw [List.length_append, List.length_take, hT]; omega
  have hd : (T + k) / 64 = T / 64 := by omega
  have hm : (T + k) % 64 = q + k := by omega
  refine ⟨more b r q k, ?_, fun j hj => ?_⟩
  · rw [hl, hd]
    refine hB.congr fun i _ => ?_
    unfold runf
    by_cases h8 : i < 8
    · rw [if_pos h8, if_pos h8, absb_left (by omega) i h8]
    · rw [if_neg h8, if_neg h8]
  · rw [hl, hm] at hj
    rw [hl, hd]
    exact more_eq hT hq hb j hj
theorem run_full {w : World} {g T q k : Nat} {b : Nat → UInt8} {l r : List UInt8} (hT : l.length = T) (hq : T % 64 = q) (hk : k ≤ r.length) (hb : ∀ j, j < q → b j = l.getD (64 * (T / 64) + j) 0) (hqk : q + k = 64)
    (hB : Blk w g 73 (runf (turnS (absb l (T / 64)) (more b r q k)) (more b r q k) (T + k)) 81) : Run w g (l ++ r.take k) := by
  have hl : (l ++ r.take k).length = T + k := by rw [List.length_append, List.length_take, hT]; omega
  have hd : (T + k) / 64 = T / 64 + 1 := by omega
  have hm : (T + k) % 64 = 0 := by omega
  refine ⟨more b r q k, ?_, fun j hj => ?_⟩
  · rw [hl, hd]
    refine hB.congr fun i _ => ?_
    unfold runf
    by_cases h8 : i < 8
    · rw [if_pos h8, if_pos h8]
      congr 1
      refine turnS_congr (fun i hi => (absb_left (by omega) i hi).symm) (fun j hj => more_eq hT hq hb j (by omega)) i h8
    · rw [if_neg h8, if_neg h8]
  · rw [hl, hm] at hj
    omega

theorem wp_load_arr {T E : TypeId} {n : Nat} {z : Value} (H : ArrT T E n z) {o : Oper} {a : Act} {w : World} {K : Act → World → Prop} {Q : Exit → Act → World → Prop} (x : Operand) (ho : o.op = .load T x)
    {g N off : Nat} {f f' : Nat → Value} {t : TypeId} (hx : a.eval x = .pointer (some ⟨g, off, none⟩)) (hg : Blk w g N f t) (hN : off + n ≤ N) (e : ∀ j, j < n → f (off + j) = f' j)
    (h : K (a.put o.dst (.agg (fcells n f'))) w) : o.wp Tryd.prog a w K Q := by
  unfold Oper.wp execOp
  simp only [ho, hx, Sem.run_bind, H.load_mid hg hN e, Sem.run_pure, Result.andThen_ok]
  exact h
/-- Bytes that are there lie in a block that is there. -/
theorem byt_block {w : World} {v : Value} {l : List UInt8} (h : Byt w v l) (h0 : 0 < l.length) {g : Nat} (hg : w.heap.size ≤ g) : v.ownBlock ≠ some g := by
  obtain ⟨A, c, rfl, _, _, hr⟩ := h
  obtain ⟨b, off, rfl, hb, _⟩ := hr h0
  intro e
  have : b = g := by simpa [Value.ownBlock] using e
  omega
theorem wpList_load_arr_mid {T E : TypeId} {n : Nat} {z : Value} (H : ArrT T E n z) {ops : Array Oper} {rest : List Oper} {o : Oper} {a : Act} {w : World} {Q : Exit → Act → World → Prop} (hgd : o.guard = none) (x : Operand) (ho : o.op = .load T x)
    {g N off : Nat} {f f' : Nat → Value} {t : TypeId} (hx : a.eval x = .pointer (some ⟨g, off, none⟩)) (hg : Blk w g N f t) (hN : off + n ≤ N) (e : ∀ j, j < n → f (off + j) = f' j)
    (h : wpList Tryd.prog ops Q rest (a.put o.dst (.agg (fcells n f'))) w) : wpList Tryd.prog ops Q (o :: rest) a w :=
  wpList_plain hgd fun _ hK => wp_load_arr H x ho hx hg hN e (hK _ _ h)
/-- A new variable of a type whose zero value is known. -/
theorem wpList_alloc_cells {T : TypeId} {cs : Array Value} (hz : (Tryd.prog.info? T).bind (·.zero) = some (.agg cs)) {ops : Array Oper} {rest : List Oper} {o : Oper} {a : Act} {w : World} {Q : Exit → Act → World → Prop} (hgd : o.guard = none) (ho : o.op = .alloc T)
    (h : wpList Tryd.prog ops Q rest (a.put o.dst (.pointer (some ⟨w.heap.size, 0, none⟩))) (w.alloc (.cells cs T))) : wpList Tryd.prog ops Q (o :: rest) a w :=
  wpList_plain hgd fun _ hK => by
    have hr : (zeroValue T).run Tryd.prog w = .ok (.agg cs) w := by
      cases hq : Tryd.prog.info? T with
      | none => rw [hq] at hz; cases hz
      | some i =>
        rw [hq] at hz
        have hz' : i.zero = some (.agg cs) := hz
        simp [zeroValue, typeInfo, hq, hz']
    unfold Oper.wp execOp
    simp only [ho, Sem.run_bind, Instr.alloc, hr, newVar, newRow, run_newObj_alloc, Sem.run_pure, Result.andThen_ok, Value.cells]
    exact hK _ _ h

/-- What a load of an array, a store comes to: kept whole. -/
noncomputable def loadA (T : TypeId) (v : Value) (w : World) : Result Next := Sem.run Tryd.prog (execOp (fun _ => v) { dst := none, op := .load T (.tmp 0), type := 0, pos := "", after := #[], guard := none }) w
noncomputable def storeA (T : TypeId) (p v : Value) (w : World) : Result Next := Sem.run Tryd.prog (execOp (fun x => match x with
  | .tmp 0 => p
  | _ => v) { dst := none, op := .store T (.tmp 0) (.tmp 1), type := 0, pos := "", after := #[], guard := none }) w
theorem exec_load_S (r : Operand → Value) (x : Operand) (dst : Option Tmp) (ty : TypeId) (pos : String) (after : Array Edge) (guard : Option (Nat × Bool)) (w : World) :
    Sem.run Tryd.prog (execOp r { dst := dst, op := .load 77 x, type := ty, pos := pos, after := after, guard := guard }) w = loadA 77 (r x) w := rfl
theorem exec_load_B (r : Operand → Value) (x : Operand) (dst : Option Tmp) (ty : TypeId) (pos : String) (after : Array Edge) (guard : Option (Nat × Bool)) (w : World) :
    Sem.run Tryd.prog (execOp r { dst := dst, op := .load 79 x, type := ty, pos := pos, after := after, guard := guard }) w = loadA 79 (r x) w := rfl
theorem exec_load_H (r : Operand → Value) (x : Operand) (dst : Option Tmp) (ty : TypeId) (pos : String) (after : Array Edge) (guard : Option (Nat × Bool)) (w : World) :
    Sem.run Tryd.prog (execOp r { dst := dst, op := .load 23 x, type := ty, pos := pos, after := after, guard := guard }) w = loadA 23 (r x) w := rfl
theorem exec_load_W (r : Operand → Value) (x : Operand) (dst : Option Tmp) (ty : TypeId) (pos : String) (after : Array Edge) (guard : Option (Nat × Bool)) (w : World) :
    Sem.run Tryd.prog (execOp r { dst := dst, op := .load 103 x, type := ty, pos := pos, after := after, guard := guard }) w = loadA 103 (r x) w := rfl
theorem exec_store_S (r : Operand → Value) (x y : Operand) (dst : Option Tmp) (ty : TypeId) (pos : String) (after : Array Edge) (guard : Option (Nat × Bool)) (w : World) :
    Sem.run Tryd.prog (execOp r { dst := dst, op := .store 77 x y, type := ty, pos := pos, after := after, guard := guard }) w = storeA 77 (r x) (r y) w := rfl
theorem exec_store_H (r : Operand → Value) (x y : Operand) (dst : Option Tmp) (ty : TypeId) (pos : String) (after : Array Edge) (guard : Option (Nat × Bool)) (w : World) :
    Sem.run Tryd.prog (execOp r { dst := dst, op := .store 23 x y, type := ty, pos := pos, after := after, guard := guard }) w = storeA 23 (r x) (r y) w := rfl
theorem loadA_eq {T E : TypeId} {n : Nat} {z : Value} (H : ArrT T E n z) {w : World} {g N o : Nat} {f f' : Nat → Value} {t : TypeId} (hg : Blk w g N f t) (ho : o + n ≤ N) (e : ∀ j, j < n → f (o + j) = f' j) :
    loadA T (.pointer (some ⟨g, o, none⟩)) w = .ok (.value (.agg (fcells n f'))) w := by
  have := H.load_mid hg ho e
  unfold loadA execOp
  simp only [Sem.run_bind, this, Result.andThen_ok, Sem.run_pure]
theorem storeA_eq {T E : TypeId} {n : Nat} {z : Value} (H : ArrT T E n z) {w : World} {g N o : Nat} {f f' : Nat → Value} {t : TypeId} (hg : Blk w g N f t) (ho : o + n ≤ N) (h1 : ∀ i, i < n → (f' i).oneCell' = true) :
    ∃ w', storeA T (.pointer (some ⟨g, o, none⟩)) (.agg (fcells n f')) w = .ok .skip w' ∧ w.grownBy w' (some g) ∧ Blk w' g N (fun j => if o ≤ j ∧ j < o + n then f' (j - o) else f j) t ∧ w'.heap.size = w.heap.size := by
  obtain ⟨w', hr, h2, h3, h4⟩ := H.store_mid hg ho h1
  refine ⟨w', ?_, h2, h3, h4⟩
  unfold storeA execOp
  simp only [Sem.run_bind, hr, Result.andThen_ok, Sem.run_pure]
theorem wpList_store_mid_arr {T E : TypeId} {n : Nat} {z : Value} (H : ArrT T E n z) {ops : Array Oper} {rest : List Oper} {o : Oper} {a : Act} {w : World} {Q : Exit → Act → World → Prop} (hgd : o.guard = none) (x y : Operand) (ho : o.op = .store T x y)
    {g N off : Nat} {t : TypeId} {f f' : Nat → Value} (hx : a.eval x = .pointer (some ⟨g, off, none⟩)) (hy : a.eval y = .agg (fcells n f')) (hg : Blk w g N f t) (hN : off + n ≤ N) (h1 : ∀ i, i < n → (f' i).oneCell' = true)
    (hh : ∀ w', w.grownBy w' (some g) → Blk w' g N (fun j => if off ≤ j ∧ j < off + n then f' (j - off) else f j) t → w'.heap.size = w.heap.size → wpList Tryd.prog ops Q rest (a.put o.dst undef) w') : wpList Tryd.prog ops Q (o :: rest) a w := by
  obtain ⟨w', hr, h2, h3, h4⟩ := H.store_mid hg hN h1
  refine wpList_plain hgd fun _ hK => ?_
  unfold Oper.wp execOp
  simp only [ho, hx, hy, Sem.run_bind, hr, Result.andThen_ok, Sem.run_pure]
  exact hK _ _ (hh w' h2 h3 h4)
end Go.Proofs.YtekfkfpfnhoblaaDoor

/-
  How texts are filled: sha.filling, sha.Fill; the first state.
-/
namespace Go.Proofs.YtekfkfpfnhoblaaDoor
set_option maxRecDepth 20000
open Go.RowKit

def slen2 : Value → Nat
  | .slice _ n _ => n
  | _ => 0
theorem u8_ofNat (m : Nat) : ((UInt8.ofNat m).toNat : Int) = (m : Int) % 256 := by
  rw [UInt8.toNat_ofNat']
  omega

set_option maxHeartbeats 1600000 in
theorem filling_any (n : Nat) (w : World) (hn : n ≤ 1099511627776) :
    Calls Tryd.prog 48 #[.int .u64 (n : Int)] w fun e w' => ∃ v, e = .returned v ∧ Own w.heap.size w' v (tailS n) ∧ Below w.heap.size w w' := by
  obtain ⟨i0, hi, hz0, hz1, hz2⟩ := info_parts info_u8
  have hb2 : i0.bytes * 73 ≤ 281474976710656 := by rw [hz2]; omega
  have hb3 : 73 ≤ maxLen := by unfold maxLen; omega
  have hnl := noughts_le n
  go_enter Tryd.func48, Tryd.ntmps48
  go_wp2_with (at_make; refine wpList_make_own _ rfl _ _ 29 rfl w.heap.size 5 i0 (.int .u8 0) 1 under_bytes hi hz0 hz1 _ _ _ 73 rfl rfl rfl hb2 hb3 (Nat.le_refl _) ?_)
  intro w0 hown0 hgrow0
  have hb0 : Below w.heap.size w w0 := (Below.refl _ _).grown hgrow0 (Nat.le_refl _) (fun k h => by cases h)
  have hv0 : Own w.heap.size w0 (.slice (some ⟨w.heap.size, 0, none⟩) 0 73) [] := hown0
  have hs0 := hb0.size
  clear hown0 hgrow0 hz0 hz1 hz2 hi hb2 hb3
  go_wp2_with (at_builtin; refine wpList_append_byt rfl (.tmp 6) (.tmp 7) rfl rfl rfl (hv0.alloc _) (byt_one _ _ 128 rfl) (by simp) (by simp; omega) ?_; intro v1 w1 hown1 hg1 _)
  have hb1 : Below w.heap.size w w1 := (hb0.alloc hs0 _).grown hg1 (by simp; omega) (fun k hk => (World.ownsRow.lt hv0 k hk).1)
  rw [List.nil_append] at hown1
  obtain ⟨A1, c1, rfl⟩ := hown1.byt.shape
  have hl1 : ([128] : List UInt8).length = 1 := rfl
  rw [hl1] at hown1 ⊢
  clear hg1 hl1
  try go_frame
  go_wp2_with fail
  go_loopw [3] (fun v wr => ∃ (z m : Nat) (A : Option Addr) (c : Nat), z ≤ noughts n ∧ Hid (m = z + 1) ∧ v = .slice A m c ∧ Hid (Own w.heap.size wr (.slice A m c) (128 :: List.replicate z 0)) ∧ Below w.heap.size w wr) (fun v _ => 100 - slen2 v)
  case atStart => exact ⟨0, 1, A1, c1, Nat.zero_le _, hid rfl, rfl, hid hown1, hb1⟩
  case round =>
    clear hown1 hb1 hv0 hb0 hs0
    obtain ⟨z, m, A, c, hz, HM, rfl, HO, hbw⟩ := hrel
    have hbs := hbw.size
    have hm : m ≤ 100 := by have := HM.out; omega
    by_cases hlt : z < noughts n
    · have ht : (((n : Int) + (m : Int) + 8) % 64 != 0) = true := by
        rw [bne_iff_ne]
        have := HM.out
        unfold noughts at hlt
        omega
      go_wp2_with (at_builtin; refine wpList_append_byt rfl (.tmp 17) (.tmp 18) rfl rfl rfl (HO.out.alloc _) (byt_one _ _ 0 rfl) (by simp; omega) (by simp; omega) ?_; intro v2 w2 hown2 hg2 _)
      have hb2 : Below w.heap.size w w2 := (hbw.alloc hbs _).grown hg2 (by simp; omega) (fun k hk => (World.ownsRow.lt HO.out k hk).1)
      have hl : (128 :: List.replicate z 0 : List UInt8) ++ [0] = 128 :: List.replicate (z + 1) 0 := by
        rw [List.replicate_succ', List.cons_append]
      rw [hl] at hown2
      clear hl hg2
      obtain ⟨A2, c2, rfl⟩ := hown2.byt.shape
      have hl2 : (128 :: List.replicate (z + 1) 0 : List UInt8).length = m + 1 := by simp; have := HM.out; omega
      rw [hl2] at hown2 ⊢
      have HO2 := hid hown2
      clear hl2 hown2
      try go_frame
      go_roundw
      case rel => exact ⟨z + 1, m + 1, A2, c2, by omega, hid (by have := HM.out; omega), rfl, HO2, hb2⟩
      case measure => show 100 - (m + 1) < 100 - m; have := HM.out; omega
    · have ht : (((n : Int) + (m : Int) + 8) % 64 != 0) = false := by
        rw [bne_eq_false_iff_eq]
        have := HM.out
        unfold noughts at hlt hz
        omega
      have HO3 : Hid (Own w.heap.size wr (.slice A m c) (128 :: List.replicate (noughts n) 0 ++ be8 (n * 8) 0)) := by
        have e : z = noughts n := by omega
        have := HO.out
        rw [e] at this
        have e2 : (128 :: List.replicate (noughts n) 0 ++ be8 (n * 8) 0 : List UInt8) = 128 :: List.replicate (noughts n) 0 := by simp [be8]
        rw [e2]
        exact hid this
      obtain ⟨wo, rfl⟩ : ∃ wo : World, wo = wr := ⟨_, rfl⟩
      go_wp2_with fail
      go_loopw [3, 4] (fun v s wr => ∃ (k : Nat) (x : Int) (A : Option Addr) (m c : Nat), k ≤ 8 ∧ Hid (x = 56 - 8 * (k : Int)) ∧ s = .int .i64 x ∧ v = .slice A m c ∧ m ≤ 120 ∧ Hid (Own w.heap.size wr (.slice A m c) (128 :: List.replicate (noughts n) 0 ++ be8 (n * 8) k)) ∧ Below w.heap.size w wr) (fun _ s _ => (intOf s + 8).toNat)
      case atStart => exact ⟨0, 56, A, m, c, by omega, hid (by omega), rfl, rfl, by omega, HO3, hbw⟩
      case round =>
        clear HO HO3 hbw hbs
        obtain ⟨k, x, A, m, c, hk, HX, rfl, rfl, hm, HO, hbw⟩ := hrel
        have hbs := hbw.size
        have hx1 : x ≤ 56 := by have := HX.out; omega
        have hx2 : -8 ≤ x := by have := HX.out; omega
        by_cases hlt2 : k < 8
        · have hx0 : 0 ≤ x := by have := HX.out; omega
          have hml : m = (128 :: List.replicate (noughts n) 0 ++ be8 (n * 8) k : List UInt8).length := HO.out.byt.at_.1
          have HML := hid hml
          clear hml
          have hq : (n : Int) * 8 / 2 ^ x.toNat % 256 = ((UInt8.ofNat (n * 8 / 2 ^ (56 - 8 * k))).toNat : Int) := by
            rw [u8_ofNat, show x.toNat = 56 - 8 * k from by have := HX.out; omega]
            simp
          have HQ := hid hq
          have hlen : (128 :: List.replicate (noughts n) 0 ++ be8 (n * 8) k : List UInt8).length + [UInt8.ofNat (n * 8 / 2 ^ (56 - 8 * k))].length ≤ 140737488355328 := by rw [← HML.out, List.length_singleton]; omega
          clear hq
          go_wp2_with (at_builtin; refine wpList_append_byt rfl (.tmp 24) (.tmp 30) rfl rfl rfl (HO.out.alloc _) (byt_one _ _ _ HQ.out) hlen (by simp; omega) ?_; intro v2 w2 hown2 hg2 _)
          have hb2 : Below w.heap.size w w2 := (hbw.alloc hbs _).grown hg2 (by simp; omega) (fun k hk => (World.ownsRow.lt HO.out k hk).1)
          have hl : (128 :: List.replicate (noughts n) 0 ++ be8 (n * 8) k : List UInt8) ++ [UInt8.ofNat (n * 8 / 2 ^ (56 - 8 * k))] = 128 :: List.replicate (noughts n) 0 ++ be8 (n * 8) (k + 1) := by
            rw [List.append_assoc]
            rfl
          rw [hl] at hown2
          clear hl hg2
          obtain ⟨A2, c2, rfl⟩ := hown2.byt.shape
          have hl2 : (128 :: List.replicate (noughts n) 0 ++ be8 (n * 8) (k + 1) : List UInt8).length = m + 1 := by
            have := HML.out
            simp only [List.length_append, List.length_cons, List.length_replicate, be8_length] at this ⊢
            omega
          have hml2 : m + 1 ≤ 120 := by
            have := HML.out
            simp only [List.length_append, List.length_cons, List.length_replicate, be8_length] at this
            omega
          rw [hl2] at hown2 ⊢
          have HO2 := hid hown2
          clear hl2 hown2
          go_roundw
          case rel => exact ⟨k + 1, x - 8, A2, m + 1, c2, by omega, hid (by have := HX.out; omega), rfl, rfl, hml2, HO2, hb2⟩
          case measure => simp [intOf]; omega
        · have hx0 : x < 0 := by have := HX.out; omega
          go_wp2_with fail
          go_ret
          have e : k = 8 := by omega
          subst e
          exact ⟨_, rfl, HO.out, hbw⟩

theorem start_any (w : World) : Calls Tryd.prog 46 #[] w fun e w' => e = .returned (.agg (fcells 8 fun j => wc (start j))) ∧ Below w.heap.size w w' := by
  go_enter Tryd.func46, Tryd.ntmps46
  go_wp2_with (first
    | (refine wpList_alloc_arr arrS rfl rfl ?_)
    | (refine wpList_store_arr arrS (f' := fun j => wc (start j)) rfl _ _ rfl rfl rfl (Blk.new w 8 (fun _ => wc 0) 77) (fun _ _ => rfl) ?_; intro w9 hg9 hC9 hs9))
  refine bodyPost_ret (arrS.result rfl _ _ rfl hC9) rfl ⟨rfl, ?_⟩
  exact below_into ((Below.refl _ _).alloc (Nat.le_refl _) _) (Nat.le_refl _) hg9 (by simp)
end Go.Proofs.YtekfkfpfnhoblaaDoor

/-
  A row of the call's own stays where a later one is made and filled.
-/
namespace Go.Proofs.YtekfkfpfnhoblaaDoor
set_option maxRecDepth 20000
open Go.RowKit

theorem keep_new {w w' : World} {B N : Nat} {v v' : Value} {l : List UInt8} (h : Own B w v l) (h1 : ∀ k, v.ownBlock = some k → k < N) (hg : w.grownBy w' v'.ownBlock) (h2 : ∀ k, v'.ownBlock = some k → N ≤ k) : Own B w' v l :=
  h.keep fun b hb e => hg.block b hb (fun e2 => by
    have := h1 b e
    have := h2 b e2.symm
    omega)

end Go.Proofs.YtekfkfpfnhoblaaDoor

/-
  tithingref02.Fill gives a text that is filled.
-/
namespace Go.Proofs.YtekfkfpfnhoblaaDoor
set_option maxRecDepth 20000
open Go.RowKit

theorem byt_eight (w : World) (c0 c1 c2 c3 c4 c5 c6 c7 : UInt8) (x0 x1 x2 x3 x4 x5 x6 x7 : Int) (h0 : x0 = (c0.toNat : Int)) (h1 : x1 = (c1.toNat : Int)) (h2 : x2 = (c2.toNat : Int)) (h3 : x3 = (c3.toNat : Int)) (h4 : x4 = (c4.toNat : Int)) (h5 : x5 = (c5.toNat : Int)) (h6 : x6 = (c6.toNat : Int)) (h7 : x7 = (c7.toNat : Int)) : Byt (w.alloc (.cells #[.int .u8 x0, .int .u8 x1, .int .u8 x2, .int .u8 x3, .int .u8 x4, .int .u8 x5, .int .u8 x6, .int .u8 x7] 5)) (.slice (some ⟨w.heap.size, 0, none⟩) 8 8) [c0, c1, c2, c3, c4, c5, c6, c7] := by
  subst h0 h1 h2 h3 h4 h5 h6 h7
  refine ⟨_, 8, rfl, Nat.le_refl _, by unfold maxLen; omega, fun _ => ⟨w.heap.size, 0, rfl, by simp, fun j hj => ?_⟩⟩
  have B := (Blk.new w 8 (fun j => bcell ([c0, c1, c2, c3, c4, c5, c6, c7].getD j 0)) 5).cell (i := j) hj
  have e : (fcells 8 fun j => bcell ([c0, c1, c2, c3, c4, c5, c6, c7].getD j 0)) = #[.int .u8 (c0.toNat : Int), .int .u8 (c1.toNat : Int), .int .u8 (c2.toNat : Int), .int .u8 (c3.toNat : Int), .int .u8 (c4.toNat : Int), .int .u8 (c5.toNat : Int), .int .u8 (c6.toNat : Int), .int .u8 (c7.toNat : Int)] := rfl
  rw [e] at B
  obtain rfl | rfl | rfl | rfl | rfl | rfl | rfl | rfl : j = 0 ∨ j = 1 ∨ j = 2 ∨ j = 3 ∨ j = 4 ∨ j = 5 ∨ j = 6 ∨ j = 7 := by simp at hj; omega
  all_goals first | exact B | (rw [addr_add]; exact B) | (simp [Addr.add] at B ⊢; exact B) | simpa using B
theorem be8_list (m : Nat) : be8 m 8 = [UInt8.ofNat (m / 72057594037927936), UInt8.ofNat (m / 281474976710656), UInt8.ofNat (m / 1099511627776), UInt8.ofNat (m / 4294967296), UInt8.ofNat (m / 16777216), UInt8.ofNat (m / 65536), UInt8.ofNat (m / 256), UInt8.ofNat m] := by simp [be8]

set_option maxHeartbeats 3200000 in
theorem refFill_any (v : Value) (l : List UInt8) (w : World) (hv : Byt w v l) (hs : l.length ≤ 1000000) :
    Calls Tryd.prog 49 #[v] w fun e w' => ∃ x, e = .returned x ∧ Own w.heap.size w' x (fillS l) ∧ Below w.heap.size w w' := by
  obtain ⟨A, c, rfl⟩ := hv.shape
  obtain ⟨L, HL⟩ : ∃ L : Nat, Hid (l.length = L) := ⟨_, hid rfl⟩
  rw [HL.out] at hs hv ⊢
  have hnl := noughts_le L
  go_enter Tryd.func49, Tryd.ntmps49
  have hown0 : Own w.heap.size (w.alloc (.cells #[] 5)) (.slice (some ⟨w.heap.size, 0, none⟩) 0 0) [] :=
    ⟨by simp [bcells], .inr ⟨w.heap.size, 0, #[], rfl, Nat.le_refl _, by rw [heap_alloc_new], Nat.le_refl _, by unfold maxLen; omega, rfl, by simp [bcells]⟩⟩
  have hb0 : Below w.heap.size w (w.alloc (.cells #[] 5)) := (Below.refl _ _).alloc (Nat.le_refl _) _
  have hv0 := hv.below hb0
  have hs0 := hb0.size
  have hr1 : ([] : List UInt8).length + l.length ≤ 140737488355328 := by rw [HL.out]; simp; omega
  have hr2 : ([] ++ l : List UInt8).length + ([128] : List UInt8).length ≤ 140737488355328 := by rw [List.nil_append, HL.out, List.length_singleton]; omega
  go_wp2_with (first
    | (at_builtin; refine wpList_append_byt rfl (.tmp 5) (.tmp 6) rfl rfl rfl hown0 hv0 hr1 hs0 ?_; intro v1 w1 hown1 hg1 hv1; have hb1 : Below w.heap.size w w1 := hb0.grown hg1 hs0 (fun k hk => (World.ownsRow.lt hown0 k hk).1); have hs1 := hb1.size; have hs2 : w.heap.size ≤ (w1.alloc (.cells #[.int .u8 128] 5)).heap.size := by simp; omega)
    | (at_builtin; refine wpList_append_byt rfl (.tmp 7) (.tmp 8) rfl rfl rfl (hown1.alloc _) (byt_one _ _ 128 rfl) hr2 hs2 ?_; intro v2 w2 hown2 hg2 hv2))
  have hb2 : Below w.heap.size w w2 := (hb1.alloc hs1 _).grown hg2 hs2 (fun k hk => (World.ownsRow.lt hown1 k hk).1)
  have e2 : ([] ++ l ++ [128] : List UInt8) = l ++ 128 :: List.replicate 0 0 := by simp
  rw [e2] at hown2
  obtain ⟨A2, c2, rfl⟩ := hown2.byt.shape
  have hl2 : (l ++ 128 :: List.replicate 0 0 : List UInt8).length = L + 1 := by simp; exact HL.out
  rw [hl2] at hown2 ⊢
  clear hg2 hl2 e2 hg1 hown1 hb1 hs1 hs2 hown0 hb0 hv0 hs0 hr1 hr2 hv2 hv1
  try go_frame
  go_wp2_with fail
  go_loopw [3] (fun v wr => ∃ (z m : Nat) (A : Option Addr) (c : Nat), z ≤ noughts L ∧ Hid (m = L + z + 1) ∧ v = .slice A m c ∧ Hid (Own w.heap.size wr (.slice A m c) (l ++ 128 :: List.replicate z 0)) ∧ Below w.heap.size w wr) (fun v _ => L + 100 - slen2 v)
  case atStart => exact ⟨0, L + 1, A2, c2, Nat.zero_le _, hid rfl, rfl, hid hown2, hb2⟩
  case round =>
    clear hown2 hb2
    obtain ⟨z, m, A3, c3, hz, HM, rfl, HO, hbw⟩ := hrel
    have hbs := hbw.size
    have hm : m ≤ L + 100 := by have := HM.out; omega
    have hlen : (l ++ 128 :: List.replicate z 0 : List UInt8).length + ([0] : List UInt8).length ≤ 140737488355328 := by
      simp
      have := HL.out
      omega
    by_cases hlt : z < noughts L
    · have ht : ((m : Int) % 64 != 56) = true := by
        rw [bne_iff_ne]
        have := HM.out
        unfold noughts at hlt
        omega
      go_wp2_with (at_builtin; refine wpList_append_byt rfl (.tmp 14) (.tmp 15) rfl rfl rfl (HO.out.alloc _) (byt_one _ _ 0 rfl) hlen (by simp; omega) ?_; intro v4 w4 hown4 hg4 _)
      have hb4 : Below w.heap.size w w4 := (hbw.alloc hbs _).grown hg4 (by simp; omega) (fun k hk => (World.ownsRow.lt HO.out k hk).1)
      have hl : (l ++ 128 :: List.replicate z 0 : List UInt8) ++ [0] = l ++ 128 :: List.replicate (z + 1) 0 := by
        rw [List.replicate_succ', List.append_assoc, List.cons_append]
      rw [hl] at hown4
      clear hl hg4
      obtain ⟨A4, c4, rfl⟩ := hown4.byt.shape
      have hl4 : (l ++ 128 :: List.replicate (z + 1) 0 : List UInt8).length = m + 1 := by simp; have := HM.out; have := HL.out; omega
      rw [hl4] at hown4 ⊢
      have HO4 := hid hown4
      clear hl4 hown4 hlen
      try go_frame
      go_roundw
      case rel => exact ⟨z + 1, m + 1, A4, c4, by omega, hid (by have := HM.out; omega), rfl, HO4, hb4⟩
      case measure => show L + 100 - (m + 1) < L + 100 - m; have := HM.out; omega
    · have ht : ((m : Int) % 64 != 56) = false := by
        rw [bne_eq_false_iff_eq]
        have := HM.out
        unfold noughts at hlt hz
        omega
      have HO3 : Hid (Own w.heap.size wr (.slice A3 m c3) (l ++ 128 :: List.replicate (noughts L) 0)) := by
        have e : z = noughts L := by omega
        have := HO.out
        rw [e] at this
        exact hid this
      clear HO hlen
      have Q0 : Hid ((L : Int) * 8 / 72057594037927936 = ((UInt8.ofNat (L * 8 / 72057594037927936)).toNat : Int)) := hid (by rw [u8_ofNat]; omega)
      have Q1 : Hid ((L : Int) * 8 / 281474976710656 = ((UInt8.ofNat (L * 8 / 281474976710656)).toNat : Int)) := hid (by rw [u8_ofNat]; omega)
      have Q2 : Hid ((L : Int) * 8 / 1099511627776 = ((UInt8.ofNat (L * 8 / 1099511627776)).toNat : Int)) := hid (by rw [u8_ofNat]; omega)
      have Q3 : Hid ((L : Int) * 8 / 4294967296 = ((UInt8.ofNat (L * 8 / 4294967296)).toNat : Int)) := hid (by rw [u8_ofNat]; omega)
      have Q4 : Hid ((L : Int) * 8 / 16777216 = ((UInt8.ofNat (L * 8 / 16777216)).toNat : Int)) := hid (by rw [u8_ofNat]; omega)
      have Q5 : Hid ((L : Int) * 8 / 65536 = ((UInt8.ofNat (L * 8 / 65536)).toNat : Int)) := hid (by rw [u8_ofNat]; omega)
      have Q6 : Hid ((L : Int) * 8 / 256 % 256 = ((UInt8.ofNat (L * 8 / 256)).toNat : Int)) := hid (by rw [u8_ofNat]; omega)
      have Q7 : Hid ((L : Int) * 8 % 256 = ((UInt8.ofNat (L * 8)).toNat : Int)) := hid (by rw [u8_ofNat]; omega)
      have hlen5 : (l ++ 128 :: List.replicate (noughts L) 0 : List UInt8).length + (be8 (L * 8) 8).length ≤ 140737488355328 := by
        rw [be8_length]
        simp
        have := HL.out
        omega
      have he : ∀ w' : World, Byt (w'.alloc (.cells #[.int .u8 ((L : Int) * 8 / 72057594037927936), .int .u8 ((L : Int) * 8 / 281474976710656), .int .u8 ((L : Int) * 8 / 1099511627776), .int .u8 ((L : Int) * 8 / 4294967296), .int .u8 ((L : Int) * 8 / 16777216), .int .u8 ((L : Int) * 8 / 65536), .int .u8 ((L : Int) * 8 / 256 % 256), .int .u8 ((L : Int) * 8 % 256)] 5)) (.slice (some ⟨w'.heap.size, 0, none⟩) 8 8) (be8 (L * 8) 8) := fun w' => by
        rw [be8_list]
        exact byt_eight w' _ _ _ _ _ _ _ _ _ _ _ _ _ _ _ _ Q0.out Q1.out Q2.out Q3.out Q4.out Q5.out Q6.out Q7.out
      clear Q0 Q1 Q2 Q3 Q4 Q5 Q6 Q7
      have HE := hid he
      clear he
      go_wp2_with (at_builtin; refine wpList_append_byt rfl (.tmp 21) (.tmp 45) rfl rfl rfl (HO3.out.alloc _) (HE.out _) hlen5 (by simp; omega) ?_; intro v5 w5 hown5 hg5 _)
      go_ret
      have e : fillS l = l ++ 128 :: List.replicate (noughts L) 0 ++ be8 (L * 8) 8 := by
        rw [← HL.out, List.append_assoc]
        rfl
      rw [e]
      exact ⟨_, rfl, hown5, (hbw.alloc hbs _).grown hg5 (by simp; omega) (fun k hk => (World.ownsRow.lt HO3.out k hk).1)⟩
end Go.Proofs.YtekfkfpfnhoblaaDoor

/-
  Words, as the document's answer turns and shifts them bit by bit.
-/
namespace Go.Proofs.YtekfkfpfnhoblaaDoor
set_option maxRecDepth 20000
open Go.RowKit

theorem rr_zero (x : UInt32) : rr x 0 = x := by
  unfold rr
  apply UInt32.toNat_inj.1
  have := x.toNat_lt
  rw [UInt32.toNat_ofNat', Nat.pow_zero, Nat.div_one, Nat.mod_one, Nat.zero_mul, Nat.add_zero, Nat.mod_eq_of_lt (by omega)]
theorem sr_zero (x : UInt32) : sr x 0 = x := by
  unfold sr
  apply UInt32.toNat_inj.1
  have := x.toNat_lt
  rw [UInt32.toNat_ofNat', Nat.pow_zero, Nat.div_one, Nat.mod_eq_of_lt (by omega)]
theorem rr_lt' (x : UInt32) (n : Nat) (h1 : n ≤ 31) : x.toNat / 2 ^ n + x.toNat % 2 ^ n * 2 ^ (32 - n) < 4294967296 := by
  by_cases h0 : 1 ≤ n
  · exact (rr_lt x n h0 h1).1
  · obtain rfl : n = 0 := by omega
    have := x.toNat_lt
    rw [Nat.pow_zero, Nat.div_one, Nat.mod_one, Nat.zero_mul, Nat.add_zero]
    omega
theorem rr_succ (x : UInt32) (n : Nat) (h : n ≤ 30) : wv (rr x n) / 2 + wv (rr x n) % 2 * 2147483648 = wv (rr x (n + 1)) := by
  have e1 := rr_lt' x n (by omega)
  have e2 := rr_lt' x (n + 1) (by omega)
  unfold rr
  rw [wv_of _ e1, wv_of _ e2]
  clear e1 e2
  have hq : x.toNat / 2 ^ (n + 1) = x.toNat / 2 ^ n / 2 := by rw [Nat.pow_succ, Nat.div_div_eq_div_mul]
  have hr : x.toNat % 2 ^ (n + 1) = x.toNat % 2 ^ n + x.toNat / 2 ^ n % 2 * 2 ^ n := by rw [Nat.pow_succ, Nat.mod_mul, Nat.mul_comm (2 ^ n)]
  have hp : (2 : Nat) ^ (32 - n) = 2 * 2 ^ (31 - n) := by rw [show 32 - n = 31 - n + 1 from by omega, Nat.pow_succ, Nat.mul_comm]
  have hb : (2 : Nat) ^ n * 2 ^ (31 - n) = 2147483648 := by rw [← Nat.pow_add, show n + (31 - n) = 31 from by omega]
  rw [hq, hr, hp, show 32 - (n + 1) = 31 - n from by omega, Nat.add_mul, Nat.mul_assoc, hb]
  generalize x.toNat / 2 ^ n = q
  generalize x.toNat % 2 ^ n = r
  generalize (2 : Nat) ^ (31 - n) = B
  rw [Nat.mul_left_comm r 2 B]
  generalize r * B = t
  omega
theorem sr_succ (x : UInt32) (n : Nat) : wv (sr x n) / 2 = wv (sr x (n + 1)) := by
  have hx := x.toNat_lt
  have h1 := Nat.div_le_self x.toNat (2 ^ n)
  have h2 := Nat.div_le_self x.toNat (2 ^ (n + 1))
  unfold sr
  rw [wv_of _ (by omega), wv_of _ (by omega), Nat.pow_succ, ← Nat.div_div_eq_div_mul]
  omega

set_option maxHeartbeats 800000 in
theorem rturn_any (x : UInt32) (n : Nat) (hn : n ≤ 31) (w : World) : Calls Tryd.prog 67 #[.int .u32 (wv x), .int .i64 (n : Int)] w fun e w' => e = .returned (.int .u32 (wv (rr x n))) ∧ w = w' := by
  go_enter Tryd.func67, Tryd.ntmps67
  go_wp2
  go_loop [0, 5] (fun sx si => ∃ i : Nat, i ≤ n ∧ si = .int .i64 i ∧ sx = .int .u32 (wv (rr x i))) (fun _ si => n - (intOf si).toNat)
  case atStart => exact ⟨0, Nat.zero_le _, rfl, by rw [rr_zero]⟩
  case round =>
    obtain ⟨i, hi, rfl, rfl⟩ := hrel
    obtain ⟨b0, b1⟩ := wv_lt (rr x i)
    by_cases hlt : i < n
    · have hlt2 : (i : Int) < (n : Int) := by omega
      have HS := hid (rr_succ x i (by omega))
      go_wp2
      go_round
      case rel => exact ⟨i + 1, by omega, by go_num, by rw [HS.out]⟩
      case measure => simp [intOf]; omega
    · have hlt2 : ¬ (i : Int) < (n : Int) := by omega
      obtain rfl : i = n := by omega
      go_wp2
      go_ret
      exact ⟨rfl, rfl⟩

set_option maxHeartbeats 800000 in
theorem rshift_any (x : UInt32) (n : Nat) (hn : n ≤ 31) (w : World) : Calls Tryd.prog 68 #[.int .u32 (wv x), .int .i64 (n : Int)] w fun e w' => e = .returned (.int .u32 (wv (sr x n))) ∧ w = w' := by
  go_enter Tryd.func68, Tryd.ntmps68
  go_wp2
  go_loop [0, 5] (fun sx si => ∃ i : Nat, i ≤ n ∧ si = .int .i64 i ∧ sx = .int .u32 (wv (sr x i))) (fun _ si => n - (intOf si).toNat)
  case atStart => exact ⟨0, Nat.zero_le _, rfl, by rw [sr_zero]⟩
  case round =>
    obtain ⟨i, hi, rfl, rfl⟩ := hrel
    obtain ⟨b0, b1⟩ := wv_lt (sr x i)
    by_cases hlt : i < n
    · have hlt2 : (i : Int) < (n : Int) := by omega
      have HS := hid (sr_succ x i)
      go_wp2
      go_round
      case rel => exact ⟨i + 1, by omega, by go_num, by rw [HS.out]⟩
      case measure => simp [intOf]; omega
    · have hlt2 : ¬ (i : Int) < (n : Int) := by omega
      obtain rfl : i = n := by omega
      go_wp2
      go_ret
      exact ⟨rfl, rfl⟩

/-- With the counts as the program's text has them. -/
theorem rturn_same (x : UInt32) (n : Nat) (k : Int) (hk : k = (n : Int)) (hn : n ≤ 31) (w : World) : Calls Tryd.prog 67 #[.int .u32 (wv x), .int .i64 k] w fun e w' => e = .returned (.int .u32 (wv (rr x n))) ∧ w = w' := by
  subst hk
  exact rturn_any x n hn w
theorem rshift_same (x : UInt32) (n : Nat) (k : Int) (hk : k = (n : Int)) (hn : n ≤ 31) (w : World) : Calls Tryd.prog 68 #[.int .u32 (wv x), .int .i64 k] w fun e w' => e = .returned (.int .u32 (wv (sr x n))) ∧ w = w' := by
  subst hk
  exact rshift_any x n hn w
theorem rturn_still (x : UInt32) (n : Nat) (k : Int) (hk : k = (n : Int)) (hn : n ≤ 31) (w : World) : Calls Tryd.prog 67 #[.int .u32 (wv x), .int .i64 k] w fun e w' => e = .returned (.int .u32 (wv (rr x n))) ∧ w' = w := (rturn_same x n k hk hn w).mono fun _ _ ⟨h, h2⟩ => ⟨h, h2.symm⟩
theorem rshift_still (x : UInt32) (n : Nat) (k : Int) (hk : k = (n : Int)) (hn : n ≤ 31) (w : World) : Calls Tryd.prog 68 #[.int .u32 (wv x), .int .i64 k] w fun e w' => e = .returned (.int .u32 (wv (sr x n))) ∧ w' = w := (rshift_same x n k hk hn w).mono fun _ _ ⟨h, h2⟩ => ⟨h, h2.symm⟩
/-- At any count: one contract for all calls of a statement. -/
theorem rturn_lit (x : UInt32) (k : Int) (h0 : 0 ≤ k) (h1 : k ≤ 31) (w : World) : Calls Tryd.prog 67 #[.int .u32 (wv x), .int .i64 k] w fun e w' => e = .returned (.int .u32 (wv (rr x k.toNat))) ∧ w' = w := by
  obtain ⟨n, rfl⟩ := Int.eq_ofNat_of_zero_le h0
  exact rturn_still x n _ rfl (by omega) w
theorem rturn_lit2 (x : UInt32) (k : Int) (h0 : 0 ≤ k) (h1 : k ≤ 31) (w : World) : Calls Tryd.prog 67 #[.int .u32 (wv x), .int .i64 k] w fun e w' => e = .returned (.int .u32 (wv (rr x k.toNat))) ∧ w = w' := (rturn_lit x k h0 h1 w).mono fun _ _ ⟨h, h2⟩ => ⟨h, h2.symm⟩
theorem u32_ext {a b : Int} (h : a = b) : Value.int .u32 a = .int .u32 b := by rw [h]
/-- A store of eight words as they were built. -/
theorem wpList_store_eight {ops : Array Oper} {rest : List Oper} {o : Oper} {a : Act} {w : World} {Q : Exit → Act → World → Prop} (hgd : o.guard = none) (x y : Operand) (ho : o.op = .store 77 x y)
    {g : Nat} {t : TypeId} {f : Nat → Value} {v0 v1 v2 v3 v4 v5 v6 v7 : Int} (hx : a.eval x = .pointer (some ⟨g, 0, none⟩)) (hy : a.eval y = .agg #[.int .u32 v0, .int .u32 v1, .int .u32 v2, .int .u32 v3, .int .u32 v4, .int .u32 v5, .int .u32 v6, .int .u32 v7]) (hg : Blk w g 8 f t)
    (hh : ∀ w', w.grownBy w' (some g) → Blk w' g 8 (fun j => .int .u32 ([v0, v1, v2, v3, v4, v5, v6, v7].getD j 0)) t → w'.heap.size = w.heap.size → wpList Tryd.prog ops Q rest (a.put o.dst undef) w') : wpList Tryd.prog ops Q (o :: rest) a w :=
  wpList_store_arr arrS (f' := fun j => .int .u32 ([v0, v1, v2, v3, v4, v5, v6, v7].getD j 0)) hgd x y ho hx hy hg (fun _ _ => rfl) hh
theorem wpList_build_eight {ops : Array Oper} {rest : List Oper} {o : Oper} {a : Act} {w : World} {Q : Exit → Act → World → Prop} (hgd : o.guard = none) {x0 x1 x2 x3 x4 x5 x6 x7 : Operand} (ho : o.op = .build 77 #[(0, x0), (1, x1), (2, x2), (3, x3), (4, x4), (5, x5), (6, x6), (7, x7)])
    (v0 v1 v2 v3 v4 v5 v6 v7 : Int) (h0 : a.eval x0 = .int .u32 v0) (h1 : a.eval x1 = .int .u32 v1) (h2 : a.eval x2 = .int .u32 v2) (h3 : a.eval x3 = .int .u32 v3) (h4 : a.eval x4 = .int .u32 v4) (h5 : a.eval x5 = .int .u32 v5) (h6 : a.eval x6 = .int .u32 v6) (h7 : a.eval x7 = .int .u32 v7)
    (h : wpList Tryd.prog ops Q rest (a.put o.dst (.agg #[.int .u32 v0, .int .u32 v1, .int .u32 v2, .int .u32 v3, .int .u32 v4, .int .u32 v5, .int .u32 v6, .int .u32 v7])) w) : wpList Tryd.prog ops Q (o :: rest) a w :=
  wpList_plain hgd fun _ hK => by
    have e : (Instr.build 77 #[(0, .int .u32 v0), (1, .int .u32 v1), (2, .int .u32 v2), (3, .int .u32 v3), (4, .int .u32 v4), (5, .int .u32 v5), (6, .int .u32 v6), (7, .int .u32 v7)]).run Tryd.prog w = .ok (.agg #[.int .u32 v0, .int .u32 v1, .int .u32 v2, .int .u32 v3, .int .u32 v4, .int .u32 v5, .int .u32 v6, .int .u32 v7]) w := by
      have e2 : fcells 8 (fun _ => wc 0) = #[wc 0, wc 0, wc 0, wc 0, wc 0, wc 0, wc 0, wc 0] := by kernel_rfl
      simp [Instr.build, Sem.run_bind, arrS.run_zero, run_underlying arrS.under, arrS.run_esize, Instr.fill, Value.cells, e2]
    unfold Oper.wp execOp
    simp only [ho, Sem.run_bind, List.map_toArray, List.map_cons, List.map_nil, h0, h1, h2, h3, h4, h5, h6, h7, e, Sem.run_pure, Result.andThen_ok]
    exact hK _ _ h
theorem blk_heap {w w' : World} {g n : Nat} {f : Nat → Value} {t : TypeId} (h : Blk w g n f t) (e : w'.heap = w.heap) : Blk w' g n f t := by
  unfold Blk at h ⊢
  rw [e]
  exact h
/-- What is written into block B leaves what lies below it. -/
theorem below_heap {B : Nat} {a w u w' : World} (h : Below B a w) (hg : u.grownBy w' (some B)) (e1 : u.heap = w.heap) (e2 : u.os = w.os) (e3 : u.tape = w.tape) (e4 : u.output = w.output) (hs : B ≤ w.heap.size) : Below B a w' := by
  have hu : Below B a u := ⟨by rw [e2]; exact h.os, by rw [e3]; exact h.tape, by rw [e4]; exact h.output, by rw [e1]; exact h.size, fun k hk => by rw [e1]; exact h.block k hk⟩
  exact hu.grown hg (by rw [e1]; exact hs) (fun k hk => by injection hk; omega)
end Go.Proofs.YtekfkfpfnhoblaaDoor
