/-
  Turn Run PutRun Fill: what each of them says stands at its head.
-/
import Derived.Test.YtpnejoglkmfleaaGreatDoorBs2
import Derived.Deep.RegionWith
namespace Go.Proofs.YtpnejoglkmfleaaGreatDoor
set_option maxRecDepth 20000
open Go.RowKit
def Kst (g : Nat) (w : World) : Prop := g < w.heap.size ∧ ∀ j, j < 64 → w.cell? ⟨g, j, none⟩ = some (.int .u32 (wv (kc j)))
theorem Kst.below {g : Nat} {w w' : World} (h : Kst g w) (hb : Below w.heap.size w w') : Kst g w' :=
  ⟨Nat.lt_of_lt_of_le h.1 hb.size, fun j hj => (hb.cell (p := ⟨g, j, none⟩) h.1).trans (h.2 j hj)⟩
theorem Kst.grown {g : Nat} {w w' : World} (h : Kst g w) {row : Option Nat} (hg : w.grownBy w' row) (hr : row ≠ some g) : Kst g w' :=
  ⟨Nat.lt_of_lt_of_le h.1 hg.size, fun j hj => (World.cell?_of_block (hg.block g h.1 (fun e => hr e.symm))).trans (h.2 j hj)⟩
theorem bg1_still (x : UInt32) (w : World) : Calls Tryz.prog 96 #[.int .u32 (wv x)] w fun e w' => e = .returned (.int .u32 (wv (bg1 x))) ∧ w' = w := (bg1_any x w).mono fun _ _ ⟨h, h2⟩ => ⟨h, h2.symm⟩
theorem chc_still (x y z : UInt32) (w : World) : Calls Tryz.prog 97 #[.int .u32 (wv x), .int .u32 (wv y), .int .u32 (wv z)] w fun e w' => e = .returned (.int .u32 (wv (chc x y z))) ∧ w' = w := (chc_any x y z w).mono fun _ _ ⟨h, h2⟩ => ⟨h, h2.symm⟩
theorem bg0_same (x : UInt32) (w : World) : Calls Tryz.prog 98 #[.int .u32 (wv x)] w fun e w' => e = .returned (.int .u32 (wv (bg0 x))) ∧ w = w' := bg0_any x w
theorem maj_same (x y z : UInt32) (w : World) : Calls Tryz.prog 99 #[.int .u32 (wv x), .int .u32 (wv y), .int .u32 (wv z)] w fun e w' => e = .returned (.int .u32 (wv (maj x y z))) ∧ w = w' := maj_any x y z w
theorem wv_sum5 (a b c d e : UInt32) : (wv a + wv b + wv c + wv d + wv e) % 4294967296 = wv (a + b + c + d + e) := by
  rw [← wv_add (a + b + c + d) e, ← wv_sum4]
  omega
theorem quiet2 {P : Program} {f : FuncId} {args : Array Value} {w : World} {n m : Nat} {v : Value}
    (h : Calls P f args (w.drewN (n + m)) fun e w' => e = .returned v ∧ w' = w.drewN (n + m)) : Calls P f args (w.drewN (n + m)) fun e w'' => e = .returned v ∧ ∃ k, w'' = w.drewN (n + k) :=
  h.mono fun _ _ ⟨he, hm⟩ => ⟨he, m, hm⟩
set_option maxHeartbeats 3200000 in
set_option maxRecDepth 100000 in
theorem turn_any (s : Nat → UInt32) (b : Nat → UInt8) (w : World) (hK : Kst 0 w) :
    Calls Tryz.prog 91 #[.agg (fcells 8 fun j => wc (s j)), .agg (fcells 64 fun j => bcell (b j))] w fun e w' => e = .returned (.agg (fcells 8 fun j => wc (turnS s b j))) ∧ Below w.heap.size w w' := by
  have h1 := hK.1
  go_enter Tryz.func91, Tryz.ntmps91
  go_wp2_with (refine wpList_alloc_arr arrS rfl rfl ?_)
  have hA : Blk (((w.alloc (.cells (fcells 8 fun j => wc (s j)) 118)).alloc (.cells (fcells 64 fun j => bcell (b j)) 99)).alloc (.cells (fcells 8 fun _ => wc 0) 118)) w.heap.size 8 (fun j => wc (s j)) 118 := ((Blk.new w _ _ _).alloc _).alloc _
  have hB : Blk (((w.alloc (.cells (fcells 8 fun j => wc (s j)) 118)).alloc (.cells (fcells 64 fun j => bcell (b j)) 99)).alloc (.cells (fcells 8 fun _ => wc 0) 118)) (w.heap.size + 1) 64 (fun j => bcell (b j)) 99 := Blk.alloc (heap_alloc2_new w _ _) _
  have hC : Blk (((w.alloc (.cells (fcells 8 fun j => wc (s j)) 118)).alloc (.cells (fcells 64 fun j => bcell (b j)) 99)).alloc (.cells (fcells 8 fun _ => wc 0) 118)) (w.heap.size + 1 + 1) 8 (fun _ => wc 0) 118 := by
    have := Blk.new ((w.alloc (.cells (fcells 8 fun j => wc (s j)) 118)).alloc (.cells (fcells 64 fun j => bcell (b j)) 99)) 8 (fun _ => wc 0) 118
    simpa using this
  have hbw : Below w.heap.size w (((w.alloc (.cells (fcells 8 fun j => wc (s j)) 118)).alloc (.cells (fcells 64 fun j => bcell (b j)) 99)).alloc (.cells (fcells 8 fun _ => wc 0) 118)) := (((Below.refl _ _).alloc (Nat.le_refl _) _).alloc (by simp) _).alloc (by simp; omega) _
  have hsz : (((w.alloc (.cells (fcells 8 fun j => wc (s j)) 118)).alloc (.cells (fcells 64 fun j => bcell (b j)) 99)).alloc (.cells (fcells 8 fun _ => wc 0) 118)).heap.size = w.heap.size + 3 := by simp
  have hp : ((w.alloc (.cells (fcells 8 fun j => wc (s j)) 118)).alloc (.cells (fcells 64 fun j => bcell (b j)) 99)).heap.size = w.heap.size + 1 + 1 := by simp
  rw [hp]
  clear hp
  generalize (((w.alloc (.cells (fcells 8 fun j => wc (s j)) 118)).alloc (.cells (fcells 64 fun j => bcell (b j)) 99)).alloc (.cells (fcells 8 fun _ => wc 0) 118)) = w0 at *
  have Hsz := hid hsz
  clear hsz
  have hl0 := hA.cell (i := 0) (by omega)
  have hl1 := hA.cell (i := 1) (by omega)
  have hl2 := hA.cell (i := 2) (by omega)
  have hl3 := hA.cell (i := 3) (by omega)
  have hl4 := hA.cell (i := 4) (by omega)
  have hl5 := hA.cell (i := 5) (by omega)
  have hl6 := hA.cell (i := 6) (by omega)
  have hl7 := hA.cell (i := 7) (by omega)
  unfold wc at hl0 hl1 hl2 hl3 hl4 hl5 hl6 hl7
  go_wp2
  go_quiet (fail)
  go_wp2_with fail
  have hq0 : Below w.heap.size w (w0.drewN nq) := below_drewN hbw _
  refine (words_any b (w.heap.size + 1) _ (w0.drewN nq) (hB.drewN _)).mono ?_
  rintro e w1 ⟨rfl, hb1⟩
  obtain ⟨WA, HWA⟩ : ∃ WA : Value, Hid (Value.agg (fcells 64 fun j => wc (wd b j)) = WA) := ⟨_, hid rfl⟩
  rw [HWA.out]
  have hidx : ∀ (i : Nat), i < 64 → ∀ w, (Instr.index 137 WA (.int .i64 (i : Int))).run Tryz.prog w = .ok (.int .u32 (wv (wd b i))) w := fun i hi w => by
    rw [← HWA.out]
    exact arrW.run_index _ hi w
  have hbw1 : Below w.heap.size w w1 := hq0.trans (hb1.mono (by show w.heap.size ≤ w0.heap.size; have := Hsz.out; omega))
  have hA1 : Blk w1 w.heap.size 8 (fun j => wc (s j)) 118 := Blk.keep (w := w0.drewN nq) hA hb1
  have hC1 : Blk w1 (w.heap.size + 1 + 1) 8 (fun _ => wc 0) 118 := Blk.keep (w := w0.drewN nq) hC hb1
  have hK1 := hK.below hbw1
  clear hl0 hl1 hl2 hl3 hl4 hl5 hl6 hl7 hq0 hb1 hA hB hC hbw Hsz
  go_wp2_with fail
  go_loopw [5, 6, 7, 8, 9, 10, 11, 12, 34] (fun a0 a1 a2 a3 a4 a5 a6 a7 si wr => ∃ (i : Nat) (xa xb xc xd xe xf xg xh : UInt32), i ≤ 64 ∧ si = .int .i64 i ∧ Hid (rnds (wd b) i (St.of s) = ⟨xa, xb, xc, xd, xe, xf, xg, xh⟩) ∧ a0 = .int .u32 (wv xa) ∧ a1 = .int .u32 (wv xb) ∧ a2 = .int .u32 (wv xc) ∧ a3 = .int .u32 (wv xd) ∧ a4 = .int .u32 (wv xe) ∧ a5 = .int .u32 (wv xf) ∧ a6 = .int .u32 (wv xg) ∧ a7 = .int .u32 (wv xh) ∧ ∃ n, wr = w1.drewN n) (fun _ _ _ _ _ _ _ _ si _ => 64 - (intOf si).toNat)
  case atStart => exact ⟨0, s 0, s 1, s 2, s 3, s 4, s 5, s 6, s 7, by omega, rfl, hid rfl, rfl, rfl, rfl, rfl, rfl, rfl, rfl, rfl, 0, rfl⟩
  case round =>
    obtain ⟨i, xa, xb, xc, xd, xe, xf, xg, xh, hi, rfl, HV, rfl, rfl, rfl, rfl, rfl, rfl, rfl, rfl, n, rfl⟩ := hrel
    by_cases hlt : i < 64
    · have hx := hidx i hlt
      have hk := hK1.2 i hlt
      have hi64 : (i : Int) < 64 := by omega
      have h11 := hK1.1
      clear hidx
      go_wp2_with fail
      go_quiet ((first
        | (go_at_call 96; exact quiet2 (bg1_still _ _))
        | (go_at_call 97; exact quiet2 (chc_still _ _ _ _))))
      go_wp2_with (first
        | (go_at_call 98; refine (bg0_same _ _).mono ?_; rintro e w' ⟨rfl, rfl⟩)
        | (go_at_call 99; refine (maj_same _ _ _ _).mono ?_; rintro e w' ⟨rfl, rfl⟩))
      go_roundw
      case rel =>
        exact ⟨i + 1, (xh + bg1 xe + chc xe xf xg + kc i + wd b i) + (bg0 xa + maj xa xb xc), xa, xb, xc, xd + (xh + bg1 xe + chc xe xf xg + kc i + wd b i), xe, xf, xg, by omega, by go_num, hid (by unfold rnds; rw [HV.out]; rfl), by rw [wv_sum5, wv_add, wv_add], rfl, rfl, rfl, by rw [wv_sum5, wv_add], rfl, rfl, rfl, n + nq, rfl⟩
      case measure => simp [intOf]; omega
    · have HI := hid (show i = 64 by omega)
      have hge : ¬ (i : Int) < 64 := by omega
      have hl0 := hA1.cell (i := 0) (by omega)
      have hl1 := hA1.cell (i := 1) (by omega)
      have hl2 := hA1.cell (i := 2) (by omega)
      have hl3 := hA1.cell (i := 3) (by omega)
      have hl4 := hA1.cell (i := 4) (by omega)
      have hl5 := hA1.cell (i := 5) (by omega)
      have hl6 := hA1.cell (i := 6) (by omega)
      have hl7 := hA1.cell (i := 7) (by omega)
      unfold wc at hl0 hl1 hl2 hl3 hl4 hl5 hl6 hl7
      have hltA := hA1.lt
      clear hidx
      go_wp2_with (refine wpList_store_arr arrS (f' := fun j => .int .u32 ([(wv (s 0) + wv xa) % 4294967296, (wv (s 1) + wv xb) % 4294967296, (wv (s 2) + wv xc) % 4294967296, (wv (s 3) + wv xd) % 4294967296, (wv (s 4) + wv xe) % 4294967296, (wv (s 5) + wv xf) % 4294967296, (wv (s 6) + wv xg) % 4294967296, (wv (s 7) + wv xh) % 4294967296].getD j 0)) rfl _ _ rfl rfl rfl (hC1.drewN n) (fun _ _ => rfl) ?_; intro w9 hg9 hC9 hs9)
      have hres : ∀ j, j < 8 → Value.int .u32 ([(wv (s 0) + wv xa) % 4294967296, (wv (s 1) + wv xb) % 4294967296, (wv (s 2) + wv xc) % 4294967296, (wv (s 3) + wv xd) % 4294967296, (wv (s 4) + wv xe) % 4294967296, (wv (s 5) + wv xf) % 4294967296, (wv (s 6) + wv xg) % 4294967296, (wv (s 7) + wv xh) % 4294967296].getD j 0) = wc (turnS s b j) := by
        have hv := HV.out
        rw [HI.out] at hv
        intro j hj
        unfold turnS
        rw [hv]
        obtain rfl | rfl | rfl | rfl | rfl | rfl | rfl | rfl : j = 0 ∨ j = 1 ∨ j = 2 ∨ j = 3 ∨ j = 4 ∨ j = 5 ∨ j = 6 ∨ j = 7 := by omega
        all_goals exact congrArg (Value.int .u32) (wv_add _ _)
      refine bodyPost_ret (arrS.result rfl _ _ rfl (hC9.congr hres)) rfl ⟨rfl, ?_⟩
      exact below_into (below_drewN hbw1 n) (by omega) hg9 (by show w.heap.size ≤ w1.heap.size; omega)
end Go.Proofs.YtpnejoglkmfleaaGreatDoor
namespace Go.Proofs.YtpnejoglkmfleaaGreatDoor
set_option maxRecDepth 20000
open Go.RowKit
def runf (s : Nat → UInt32) (b : Nat → UInt8) (n : Nat) (j : Nat) : Value := if j < 8 then wc (s j) else if j < 72 then bcell (b (j - 8)) else .int .u64 (n : Int)
def Run (w : World) (g : Nat) (l : List UInt8) : Prop :=
  ∃ b : Nat → UInt8, Blk w g 73 (runf (absb l (l.length / 64)) b l.length) 121 ∧ ∀ j, j < l.length % 64 → b j = l.getD (64 * (l.length / 64) + j) 0
theorem Run.lt {w : World} {g : Nat} {l : List UInt8} (h : Run w g l) : g < w.heap.size := by
  obtain ⟨b, hb, _⟩ := h
  exact hb.lt
theorem Run.grown {w w' : World} {g : Nat} {l : List UInt8} (h : Run w g l) {row : Option Nat} (hg : w.grownBy w' row) (hr : row ≠ some g) : Run w' g l := by
  obtain ⟨b, hb, h2⟩ := h
  exact ⟨b, hb.grown hg hr, h2⟩
theorem Run.keep {w w' : World} {g : Nat} {l : List UInt8} (h : Run w g l) (hb : Below w.heap.size w w') : Run w' g l := h.grown (grown_below hb none) (by simp)
theorem Byt.cutS {w : World} {A : Option Addr} {l : List UInt8} {c p : Nat} (h : Byt w (.slice A l.length c) l) (hp : p ≤ l.length) :
    Byt w (.slice (if c = p then A else A.map (·.add p)) (l.length - p) (c - p)) (l.drop p) := by
  obtain ⟨_, h1, h2, h3⟩ := h.at_
  refine ⟨_, c - p, by rw [List.length_drop], by rw [List.length_drop]; omega, by omega, fun hl => ?_⟩
  rw [List.length_drop] at hl
  obtain ⟨b, off, rfl, hb, hc⟩ := h3 (by omega)
  rw [if_neg (by omega)]
  refine ⟨b, off + p, by rw [Option.map_some, addr_add], hb, fun j hj => ?_⟩
  rw [List.length_drop] at hj
  rw [Nat.add_assoc, hc (p + j) (by omega), List.getElem_drop]
theorem cut_own {A : Option Addr} {n c m d p : Nat} : (Value.slice (if c = p then A else A.map (·.add p)) m d).ownBlock = (Value.slice A n c).ownBlock ∨ (Value.slice (if c = p then A else A.map (·.add p)) m d).ownBlock = none := by
  by_cases h : c = p
  · rw [if_pos h]
    cases A <;> simp [Value.ownBlock]
  · rw [if_neg h]
    rcases A with _ | ⟨b, o, sp⟩
    · simp [Value.ownBlock]
    · cases sp <;> (simp [Value.ownBlock, Addr.add]; split <;> rfl)
theorem wpList_cut {ops : Array Oper} {rest : List Oper} {o : Oper} {a : Act} {w : World} {Q : Exit → Act → World → Prop} (hgd : o.guard = none) (x y : Operand) (ho : o.op = .slice 73 x (some y) none none)
    {A : Option Addr} {c k : Nat} {l : List UInt8} (hx : a.eval x = .slice A l.length c) (hy : a.eval y = .int .i64 (k : Int)) (hv : Byt w (.slice A l.length c) l) (hk : k ≤ l.length)
    (h : ∀ A' c', Byt w (.slice A' (l.length - k) c') (l.drop k) → (∀ g, (Value.slice A l.length c).ownBlock ≠ some g → (Value.slice A' (l.length - k) c').ownBlock ≠ some g) → wpList Tryz.prog ops Q rest (a.put o.dst (.slice A' (l.length - k) c')) w) :
    wpList Tryz.prog ops Q (o :: rest) a w := by
  obtain ⟨i0, hi, hz0, hz1, hz2⟩ := info_parts info_u8
  have hrun : (Instr.sliceAt 73 (.slice A l.length c) (some (.int .i64 (k : Int))) none none).run Tryz.prog w = .ok (.slice (if c = k then A else A.map (·.add k)) (l.length - k) (c - k)) w := by
    have hk2 : (k : Int) ≤ (l.length : Int) := by omega
    simp [Instr.sliceAt, Instr.slice, run_underlying under_bytes, Instr.sliceBounds, Instr.sliceBound, asIntOf, sizeOf, typeInfo, hi, hz1, hk]
  refine wpList_plain hgd fun _ hK => ?_
  unfold Oper.wp execOp
  simp only [ho, Option.map_some, Option.map_none, hx, hy, Sem.run_bind, hrun, Result.andThen_ok, Sem.run_pure]
  refine hK _ _ (h _ _ (hv.cutS hk) fun g hg => ?_)
  rcases cut_own (A := A) (n := l.length) (c := c) (m := l.length - k) (d := c - k) (p := k) with e | e
  · rw [e]; exact hg
  · rw [e]; simp
theorem run_copy_blk {w : World} {v : Value} {m : List UInt8} (ty : TypeId) (hv : Byt w v m) {g off N dLen dCap : Nat} {F : Nat → Value} {t : TypeId} (hg : Blk w g N F t) {k : Nat} (hk : k = Nat.min m.length dLen) (h0 : 0 < k) (hfit : off + k ≤ N) :
    ∃ w', (Builtin.copy_ #[73, 73] ty #[.slice (some ⟨g, off, none⟩) dLen dCap, v]).run Tryz.prog w = .ok (.int .i64 (k : Int)) w' ∧ w.grownBy w' (some g) ∧ Blk w' g N (fun j => if off ≤ j ∧ j < off + k then bcell (m.getD (j - off) 0) else F j) t ∧ w'.heap.size = w.heap.size := by
  obtain ⟨A, c, rfl, h1, h2, hr⟩ := hv
  have hsz : (Tryz.prog.info? 5).map (·.size) = some 1 := by kernel_rfl
  have hkm : k ≤ m.length := by rw [hk]; exact Nat.min_le_left _ _
  obtain ⟨b, off2, rfl, hb, hc⟩ := hr (by omega)
  have hlen : (bcells (m.take k)).length = k := by simp [bcells]; omega
  have hrun := run_copy_row (P := Tryz.prog) w 73 73 ty 5 g off dLen dCap ⟨b, off2, none⟩ m.length c (fcells N F) t (bcells (m.take k)) under_bytes hsz hg (by rw [hlen, hk]) (fun j u hu => by
    obtain ⟨hj, rfl⟩ := bcells_get _ j u hu
    rw [addr_add]
    have hjm : j < m.length := by simp at hj; omega
    rw [hc j hjm, List.getElem_take]) (by rw [hlen, fcells_size]; exact hfit) (bcells_one _)
  have hrow : ((fcells N F).toList.take off ++ bcells (m.take k) ++ (fcells N F).toList.drop (off + (bcells (m.take k)).length)).toArray = fcells N (fun j => if off ≤ j ∧ j < off + k then bcell (m.getD (j - off) 0) else F j) := by
    apply Array.ext_getElem?
    intro j
    rw [hlen, List.getElem?_toArray]
    have ht : ((fcells N F).toList.take off).length = off := by rw [List.length_take, Array.length_toList, fcells_size]; omega
    by_cases hj : j < N
    · rw [fcells_get _ hj]
      by_cases h3 : j < off
      · rw [if_neg (by omega), List.append_assoc, List.getElem?_append_left (by omega), List.getElem?_take_of_lt h3, fcells_list, if_pos hj]
      · by_cases h4 : j < off + k
        · rw [if_pos (by omega), List.append_assoc, List.getElem?_append_right (by omega), ht, List.getElem?_append_left (by omega)]
          have hjm : j - off < m.length := by omega
          simp [bcells, List.getElem?_take_of_lt (show j - off < k by omega), hjm]
        · rw [if_neg (by omega), List.getElem?_append_right (by rw [List.length_append, ht, hlen]; omega), List.length_append, ht, hlen, List.getElem?_drop, fcells_list, if_pos (by omega)]
          rw [show off + k + (j - (off + k)) = j from by omega]
    · rw [fcells_out _ hj, List.getElem?_eq_none]
      simp [fcells_size, bcells]
      omega
  rw [hrow, hlen] at hrun
  exact ⟨_, hrun, ⟨rfl, rfl, rfl, by simp, fun q _ hq => setRow_other w g q _ (fun e => hq (by simp [e]))⟩, setRow_heap w g _ _ t _ hg, by simp⟩
theorem wpList_copy_blk {ops : Array Oper} {rest : List Oper} {o : Oper} {a : Act} {w : World} {Q : Exit → Act → World → Prop} (hgd : o.guard = none) (d s : Operand)
    (ho : o.op = .call { callee := .builtin .copy, args := #[d, s], argTypes := #[73, 73] })
    {g off N dLen dCap : Nat} {v : Value} {m : List UInt8} {F : Nat → Value} {t : TypeId} (hd : a.eval d = .slice (some ⟨g, off, none⟩) dLen dCap) (hs : a.eval s = v) (hv : Byt w v m) (hg : Blk w g N F t)
    {k : Nat} (hk : k = Nat.min m.length dLen) (h0 : 0 < k) (hfit : off + k ≤ N)
    (h : ∀ w', w.grownBy w' (some g) → Blk w' g N (fun j => if off ≤ j ∧ j < off + k then bcell (m.getD (j - off) 0) else F j) t → w'.heap.size = w.heap.size → wpList Tryz.prog ops Q rest (a.put o.dst (.int .i64 (k : Int))) w') :
    wpList Tryz.prog ops Q (o :: rest) a w := by
  obtain ⟨w', hrun, h1, h2, h3⟩ := run_copy_blk o.type (dLen := dLen) (dCap := dCap) hv hg hk h0 hfit
  refine wpList_plain hgd fun _ hK => ?_
  unfold Oper.wp
  simp [execOp, ho, resolve, invoke, builtin, hd, hs, hrun, Result.andThen]
  exact hK _ _ (h w' h1 h2 h3)
def more (b : Nat → UInt8) (r : List UInt8) (q k j : Nat) : UInt8 := if q ≤ j ∧ j < q + k then r.getD (j - q) 0 else b j
theorem more_eq {b : Nat → UInt8} {l r : List UInt8} {T q k : Nat} (hT : l.length = T) (hq : T % 64 = q) (hb : ∀ j, j < q → b j = l.getD (64 * (T / 64) + j) 0) (j : Nat) (hj : j < q + k) :
    more b r q k j = (l ++ r.take k).getD (64 * (T / 64) + j) 0 := by
  unfold more
  by_cases h : j < q
  · rw [if_neg (by omega), hb j h, getD_left (by omega)]
  · rw [if_pos (by omega), show 64 * (T / 64) + j = l.length + (j - q) from by omega, getD_right]
    simp only [List.getD_eq_getElem?_getD]
    rw [List.getElem?_take_of_lt (by omega)]
theorem run_part {w : World} {g T q k : Nat} {b : Nat → UInt8} {l r : List UInt8} (hT : l.length = T) (hq : T % 64 = q) (hk : k ≤ r.length) (hb : ∀ j, j < q → b j = l.getD (64 * (T / 64) + j) 0) (hqk : q + k < 64)
    (hB : Blk w g 73 (runf (absb l (T / 64)) (more b r q k) (T + k)) 121) : Run w g (l ++ r.take k) := by
  have hl : (l ++ r.take k).length = T + k := by rw [List.length_append, List.length_take, hT]; omega
  have hd : (T + k) / 64 = T / 64 := by omega
  have hm : (T + k) % 64 = q + k := by omega
  refine ⟨more b r q k, ?_, fun j hj => ?_⟩
  · rw [hl, hd]
    refine hB.congr fun i _ => ?_
    unfold runf
    by_cases h8 : i < 8
    · rw [if_pos h8, if_pos h8, absb_left (by omega) i h8]
    · rw [if_neg h8, if_neg h8]
  · rw [hl, hm] at hj
    rw [hl, hd]
    exact more_eq hT hq hb j hj
theorem run_full {w : World} {g T q k : Nat} {b : Nat → UInt8} {l r : List UInt8} (hT : l.length = T) (hq : T % 64 = q) (hk : k ≤ r.length) (hb : ∀ j, j < q → b j = l.getD (64 * (T / 64) + j) 0) (hqk : q + k = 64)
    (hB : Blk w g 73 (runf (turnS (absb l (T / 64)) (more b r q k)) (more b r q k) (T + k)) 121) : Run w g (l ++ r.take k) := by
  have hl : (l ++ r.take k).length = T + k := by rw [List.length_append, List.length_take, hT]; omega
  have hd : (T + k) / 64 = T / 64 + 1 := by omega
  have hm : (T + k) % 64 = 0 := by omega
  refine ⟨more b r q k, ?_, fun j hj => ?_⟩
  · rw [hl, hd]
    refine hB.congr fun i _ => ?_
    unfold runf
    by_cases h8 : i < 8
    · rw [if_pos h8, if_pos h8]
      congr 1
      refine turnS_congr (fun i hi => (absb_left (by omega) i hi).symm) (fun j hj => more_eq hT hq hb j (by omega)) i h8
    · rw [if_neg h8, if_neg h8]
  · rw [hl, hm] at hj
    omega
theorem wp_load_arr {T E : TypeId} {n : Nat} {z : Value} (H : ArrT T E n z) {o : Oper} {a : Act} {w : World} {K : Act → World → Prop} {Q : Exit → Act → World → Prop} (x : Operand) (ho : o.op = .load T x)
    {g N off : Nat} {f f' : Nat → Value} {t : TypeId} (hx : a.eval x = .pointer (some ⟨g, off, none⟩)) (hg : Blk w g N f t) (hN : off + n ≤ N) (e : ∀ j, j < n → f (off + j) = f' j)
    (h : K (a.put o.dst (.agg (fcells n f'))) w) : o.wp Tryz.prog a w K Q := by
  unfold Oper.wp execOp
  simp only [ho, hx, Sem.run_bind, H.load_mid hg hN e, Sem.run_pure, Result.andThen_ok]
  exact h
theorem byt_block {w : World} {v : Value} {l : List UInt8} (h : Byt w v l) (h0 : 0 < l.length) {g : Nat} (hg : w.heap.size ≤ g) : v.ownBlock ≠ some g := by
  obtain ⟨A, c, rfl, _, _, hr⟩ := h
  obtain ⟨b, off, rfl, hb, _⟩ := hr h0
  intro e
  have : b = g := by simpa [Value.ownBlock] using e
  omega
theorem wpList_load_arr_mid {T E : TypeId} {n : Nat} {z : Value} (H : ArrT T E n z) {ops : Array Oper} {rest : List Oper} {o : Oper} {a : Act} {w : World} {Q : Exit → Act → World → Prop} (hgd : o.guard = none) (x : Operand) (ho : o.op = .load T x)
    {g N off : Nat} {f f' : Nat → Value} {t : TypeId} (hx : a.eval x = .pointer (some ⟨g, off, none⟩)) (hg : Blk w g N f t) (hN : off + n ≤ N) (e : ∀ j, j < n → f (off + j) = f' j)
    (h : wpList Tryz.prog ops Q rest (a.put o.dst (.agg (fcells n f'))) w) : wpList Tryz.prog ops Q (o :: rest) a w :=
  wpList_plain hgd fun _ hK => wp_load_arr H x ho hx hg hN e (hK _ _ h)
theorem wpList_alloc_cells {T : TypeId} {cs : Array Value} (hz : (Tryz.prog.info? T).bind (·.zero) = some (.agg cs)) {ops : Array Oper} {rest : List Oper} {o : Oper} {a : Act} {w : World} {Q : Exit → Act → World → Prop} (hgd : o.guard = none) (ho : o.op = .alloc T)
    (h : wpList Tryz.prog ops Q rest (a.put o.dst (.pointer (some ⟨w.heap.size, 0, none⟩))) (w.alloc (.cells cs T))) : wpList Tryz.prog ops Q (o :: rest) a w :=
  wpList_plain hgd fun _ hK => by
    have hr : (zeroValue T).run Tryz.prog w = .ok (.agg cs) w := by
      cases hq : Tryz.prog.info? T with
      | none => rw [hq] at hz; cases hz
      | some i =>
        rw [hq] at hz
        have hz' : i.zero = some (.agg cs) := hz
        simp [zeroValue, typeInfo, hq, hz']
    unfold Oper.wp execOp
    simp only [ho, Sem.run_bind, Instr.alloc, hr, newVar, newRow, run_newObj_alloc, Sem.run_pure, Result.andThen_ok, Value.cells]
    exact hK _ _ h
noncomputable def loadA (T : TypeId) (v : Value) (w : World) : Result Next := Sem.run Tryz.prog (execOp (fun _ => v) { dst := none, op := .load T (.tmp 0), type := 0, pos := "", after := #[], guard := none }) w
noncomputable def storeA (T : TypeId) (p v : Value) (w : World) : Result Next := Sem.run Tryz.prog (execOp (fun x => match x with
  | .tmp 0 => p
  | _ => v) { dst := none, op := .store T (.tmp 0) (.tmp 1), type := 0, pos := "", after := #[], guard := none }) w
theorem exec_load_S (r : Operand → Value) (x : Operand) (dst : Option Tmp) (ty : TypeId) (pos : String) (after : Array Edge) (guard : Option (Nat × Bool)) (w : World) :
    Sem.run Tryz.prog (execOp r { dst := dst, op := .load 118 x, type := ty, pos := pos, after := after, guard := guard }) w = loadA 118 (r x) w := rfl
theorem exec_load_B (r : Operand → Value) (x : Operand) (dst : Option Tmp) (ty : TypeId) (pos : String) (after : Array Edge) (guard : Option (Nat × Bool)) (w : World) :
    Sem.run Tryz.prog (execOp r { dst := dst, op := .load 99 x, type := ty, pos := pos, after := after, guard := guard }) w = loadA 99 (r x) w := rfl
theorem exec_store_S (r : Operand → Value) (x y : Operand) (dst : Option Tmp) (ty : TypeId) (pos : String) (after : Array Edge) (guard : Option (Nat × Bool)) (w : World) :
    Sem.run Tryz.prog (execOp r { dst := dst, op := .store 118 x y, type := ty, pos := pos, after := after, guard := guard }) w = storeA 118 (r x) (r y) w := rfl
theorem loadA_eq {T E : TypeId} {n : Nat} {z : Value} (H : ArrT T E n z) {w : World} {g N o : Nat} {f f' : Nat → Value} {t : TypeId} (hg : Blk w g N f t) (ho : o + n ≤ N) (e : ∀ j, j < n → f (o + j) = f' j) :
    loadA T (.pointer (some ⟨g, o, none⟩)) w = .ok (.value (.agg (fcells n f'))) w := by
  have := H.load_mid hg ho e
  unfold loadA execOp
  simp only [Sem.run_bind, this, Result.andThen_ok, Sem.run_pure]
theorem storeA_eq {T E : TypeId} {n : Nat} {z : Value} (H : ArrT T E n z) {w : World} {g N o : Nat} {f f' : Nat → Value} {t : TypeId} (hg : Blk w g N f t) (ho : o + n ≤ N) (h1 : ∀ i, i < n → (f' i).oneCell' = true) :
    ∃ w', storeA T (.pointer (some ⟨g, o, none⟩)) (.agg (fcells n f')) w = .ok .skip w' ∧ w.grownBy w' (some g) ∧ Blk w' g N (fun j => if o ≤ j ∧ j < o + n then f' (j - o) else f j) t ∧ w'.heap.size = w.heap.size := by
  obtain ⟨w', hr, h2, h3, h4⟩ := H.store_mid hg ho h1
  refine ⟨w', ?_, h2, h3, h4⟩
  unfold storeA execOp
  simp only [Sem.run_bind, hr, Result.andThen_ok, Sem.run_pure]
end Go.Proofs.YtpnejoglkmfleaaGreatDoor
namespace Go.Proofs.YtpnejoglkmfleaaGreatDoor
set_option maxRecDepth 20000
open Go.RowKit
def slen : Value → Nat
  | .slice _ n _ => n
  | _ => 0
attribute [local go_sem ↓] exec_load_S exec_load_B exec_store_S
set_option maxHeartbeats 3200000 in
theorem put_any (g : Nat) (t l : List UInt8) (v : Value) (w : World) (hK : Kst 0 w) (hgK : g ≠ 0) (hr : Run w g t) (hv : Byt w v l) (hne : 0 < l.length → v.ownBlock ≠ some g) (hs : t.length + l.length ≤ 1099511627776) :
    Calls Tryz.prog 80 #[.pointer (some ⟨g, 0, none⟩), v] w fun e w' => e = .returned (.tuple #[]) ∧ Run w' g (t ++ l) ∧ w.grownBy w' (some g) := by
  obtain ⟨A, c, rfl⟩ := hv.shape
  go_enter Tryz.func80, Tryz.ntmps80
  go_wp2
  go_loopw [1] (fun vb wr => ∃ (d r : List UInt8) (A' : Option Addr) (c' : Nat), Hid (l = d ++ r) ∧ vb = .slice A' r.length c' ∧ Byt wr (.slice A' r.length c') r ∧ Hid (0 < r.length → (Value.slice A' r.length c').ownBlock ≠ some g) ∧ Run wr g (t ++ d) ∧ w.grownBy wr (some g)) (fun vb _ => slen vb)
  case atStart => exact ⟨[], l, A, c, hid rfl, rfl, hv, hid hne, by rw [List.append_nil]; exact hr, World.grownBy.refl _ _⟩
  case round =>
    clear hv hne hr
    obtain ⟨d, r, A', c', HL, rfl, hv, hnE, hr, hgr⟩ := hrel
    have hKr := hK.grown hgr (fun e => hgK (Option.some.inj e))
    have hll : l.length = d.length + r.length := by rw [HL.out, List.length_append]
    by_cases h0 : r.length = 0
    · have h00 : ¬ (0 : Int) < (r.length : Int) := by omega
      have HR := hid (List.eq_nil_of_length_eq_zero h0)
      have HE := hid h0
      clear h0
      go_wp2_with fail
      go_end0
      have e : l = d := by rw [HL.out, HR.out, List.append_nil]
      rw [e]
      exact ⟨rfl, hr, hgr⟩
    · have h00 : (0 : Int) < (r.length : Int) := by omega
      have hne := hid (hnE.out (by omega))
      have hltg := hr.lt
      obtain ⟨T, HT⟩ : ∃ T : Nat, Hid ((t ++ d).length = T) := ⟨_, hid rfl⟩
      have hTs : T + r.length ≤ 1099511627776 := by have := HT.out; rw [List.length_append] at this; omega
      obtain ⟨b, hB, hb⟩ := hr
      rw [HT.out] at hB hb
      obtain ⟨q, Hq⟩ : ∃ q : Nat, Hid (T % 64 = q) := ⟨_, hid rfl⟩
      rw [Hq.out] at hb
      have hq64 : q < 64 := by have := Hq.out; omega
      have k72 : wr.cell? ⟨g, 72, none⟩ = some (.int .u64 (T : Int)) := hB.cell (i := 72) (by omega)
      have q1 : (T : Int).tmod 64 = (q : Int) := by rw [Int.tmod_eq_emod_of_nonneg (by omega)]; have := Hq.out; omega
      have q2 : (T : Int) % 64 = (q : Int) := by have := Hq.out; omega
      have q3 : (q : Int) ≤ 64 := by omega
      have q4 : ¬ (64 = q) := by omega
      obtain ⟨k, Hk⟩ : ∃ k : Nat, Hid (Nat.min r.length (64 - q) = k) := ⟨_, hid rfl⟩
      have hk1 : k ≤ r.length := by rw [← Hk.out]; exact Nat.min_le_left _ _
      have hk2 : k ≤ 64 - q := by rw [← Hk.out]; exact Nat.min_le_right _ _
      have hk0 : 0 < k := by rw [← Hk.out]; exact Nat.lt_min.2 ⟨by omega, by omega⟩
      go_wp2_with fail
      go_still_tail 10, (by kernel_rfl)
      change wpList _ _ _ _ _ wr.drew
      refine wpList_copy_blk (k := k) rfl (.tmp 16) (.tmp 17) rfl rfl rfl (w := wr.drew) hv hB.drew Hk.out.symm hk0 (by omega) ?_
      intro w4 hg4 hB4 hs4
      have hB5 : Blk w4 g 73 (runf (absb (t ++ d) (T / 64)) (more b r q k) T) 121 := hB4.congr fun i _ => by
        unfold runf more
        by_cases h8 : i < 8
        · rw [if_pos h8, if_pos h8, if_neg (by omega)]
        · by_cases h72 : i < 72
          · rw [if_neg h8, if_neg h8, if_pos h72, if_pos h72]
            by_cases hin : 8 + q ≤ i ∧ i < 8 + q + k
            · rw [if_pos hin, if_pos (by omega), show i - (8 + q) = i - 8 - q from by omega]
            · rw [if_neg hin, if_neg (by omega)]
          · rw [if_neg h8, if_neg h8, if_neg h72, if_neg h72, if_neg (by omega)]
      have hv4 : Byt w4 (.slice A' r.length c') r := Byt.keep (w := wr.drew) hv hg4.size fun b hb e => hg4.block b hb (fun e2 => hne.out (by rw [e, e2]))
      have hgr4 : w.grownBy w4 (some g) := (grown_drewF hgr 1).trans hg4
      have c72 : w4.cell? ⟨g, 72, none⟩ = some (.int .u64 (T : Int)) := hB5.cell (i := 72) (by omega)
      have f72 := hB5.free 72
      have hK4 := hK.grown hgr4 (fun e => hgK (Option.some.inj e))
      have hk3 : (k : Int) ≤ (r.length : Int) := by omega
      have hcc := hv4.at_.2.1
      have hq5 : T + k < 18446744073709551616 := by omega
      have hlt4 := hB5.lt
      clear hB4 k72 q1 q2 q3 q4 hB hv
      by_cases hz : (T + k) % 64 = 0
      · have hz1 : ((T : Int) + (k : Int)) % 64 = 0 := by omega
        have hset := (hB5.set (i := 72) (by omega) (.int .u64 ((T : Int) + (k : Int)))).congr (f' := runf (absb (t ++ d) (T / 64)) (more b r q k) (T + k)) fun i _ => by
          unfold runf
          by_cases h8 : i < 8
          · rw [if_neg (by omega), if_pos h8, if_pos h8]
          · by_cases h72 : i < 72
            · rw [if_neg (by omega), if_neg h8, if_neg h8, if_pos h72, if_pos h72]
            · rw [if_pos (by omega), if_neg h8, if_neg h72]
              simp
        have hgr5 : w.grownBy (w4.setCell ⟨g, 72, none⟩ (.int .u64 ((T : Int) + (k : Int)))) (some g) := hgr4.trans (grown_setCell _ _ _ _)
        have hlt5 := hset.lt
        go_wp2_with (refine wpList_cut rfl (.tmp 19) (.tmp 20) rfl rfl rfl hv4 hk1 ?_; intro A5 c5 hv5 hne5)
        have hv6 : Byt (w4.setCell ⟨g, 72, none⟩ (.int .u64 ((T : Int) + (k : Int)))) (.slice A5 (r.length - k) c5) (r.drop k) := hv5.keep (by simp [World.setCell]) fun b hb e => heap_setCell_other _ _ _ _ (fun e2 => hne5 g hne.out (by rw [e, e2]))
        generalize w4.setCell ⟨g, 72, none⟩ (.int .u64 ((T : Int) + (k : Int))) = w5 at *
        have hK5 := hK.grown hgr5 (fun e => hgK (Option.some.inj e))
        clear hB5 c72 f72 hK4 hv4 hv5 hlt4
        have e1 : ∀ j, j < 8 → runf (absb (t ++ d) (T / 64)) (more b r q k) (T + k) (0 + j) = wc (absb (t ++ d) (T / 64) j) := fun j hj => by unfold runf; rw [Nat.zero_add, if_pos hj]
        have e2 : ∀ j, j < 64 → runf (absb (t ++ d) (T / 64)) (more b r q k) (T + k) (8 + j) = bcell (more b r q k j) := fun j hj => by unfold runf; rw [if_neg (by omega), if_pos (by omega), Nat.add_sub_cancel_left]
        have l3 := loadA_eq (w := w5.drew) arrS hset (by omega) e1
        have l4 := loadA_eq (w := w5.drew) arrB hset (by omega) e2
        go_region_law (go_simp; go_at_call 91; refine (turn_any _ _ _ (show Kst 0 w5.drew from hK5)).mono ?_; rintro e w6 ⟨rfl, hb6⟩; have hset6 : Blk w6 g 73 (runf (absb (t ++ d) (T / 64)) (more b r q k) (T + k)) 121 := Blk.keep (w := w5.drew) hset hb6; obtain ⟨w7, hs7, hg7, hB7, _⟩ := storeA_eq (f' := fun j => wc (turnS (absb (t ++ d) (T / 64)) (more b r q k) j)) arrS hset6 (o := 0) (by omega) (fun _ _ => rfl))
        all_goals
          have hgr6 : w.grownBy w6 (some g) := (grown_drewF hgr5 1).trans (grown_below hb6 _)
          have hv7 : Byt w6 (.slice A5 (r.length - k) c5) (r.drop k) := Byt.below (w := w5.drew) hv6 hb6
          have hB8 : Blk w7 g 73 (runf (turnS (absb (t ++ d) (T / 64)) (more b r q k)) (more b r q k) (T + k)) 121 := hB7.congr fun i _ => by
            unfold runf
            by_cases h8 : i < 8
            · rw [if_pos (by omega), if_pos h8, Nat.sub_zero]
            · rw [if_neg (by omega), if_neg h8, if_neg h8]
          have hv8 : Byt w7 (.slice A5 (r.length - k) c5) (r.drop k) := hv7.keep hg7.size fun b hb e => hg7.block b hb (fun e2 => hne5 g hne.out (by rw [e, e2]))
          clear l3 l4 e1 e2
          go_wp2_with fail
          go_roundw
          case rel =>
            refine ⟨d ++ r.take k, r.drop k, A5, c5, hid (by rw [HL.out, List.append_assoc, List.take_append_drop]), by rw [List.length_drop], by rw [List.length_drop]; exact hv8, hid (fun _ => by rw [List.length_drop]; exact hne5 g hne.out), ?_, hgr6.trans hg7⟩
            rw [← List.append_assoc]
            exact run_full HT.out Hq.out hk1 hb (by have := Hq.out; omega) hB8
          case measure => show r.length - k < r.length; omega
      · have hz1 : (((T : Int) + (k : Int)) % 64 == 0) = false := by rw [beq_eq_false_iff_ne]; omega
        have hset := (hB5.set (i := 72) (by omega) (.int .u64 ((T : Int) + (k : Int)))).congr (f' := runf (absb (t ++ d) (T / 64)) (more b r q k) (T + k)) fun i _ => by
          unfold runf
          by_cases h8 : i < 8
          · rw [if_neg (by omega), if_pos h8, if_pos h8]
          · by_cases h72 : i < 72
            · rw [if_neg (by omega), if_neg h8, if_neg h8, if_pos h72, if_pos h72]
            · rw [if_pos (by omega), if_neg h8, if_neg h72]
              simp
        go_wp2_with (refine wpList_cut rfl (.tmp 19) (.tmp 20) rfl rfl rfl hv4 hk1 ?_; intro A5 c5 hv5 hne5)
        go_roundw
        case rel =>
          refine ⟨d ++ r.take k, r.drop k, A5, c5, hid (by rw [HL.out, List.append_assoc, List.take_append_drop]), by rw [List.length_drop], ?_, hid (fun _ => by rw [List.length_drop]; exact hne5 g hne.out), ?_, hgr4.trans (grown_setCell _ _ _ _)⟩
          · rw [List.length_drop]
            exact hv5.keep (by simp [World.setCell]) fun b hb e => heap_setCell_other _ _ _ _ (fun e2 => hne5 g hne.out (by rw [e, e2]))
          · rw [← List.append_assoc]
            exact run_part HT.out Hq.out hk1 hb (by have := Hq.out; omega) hset
        case measure => show r.length - k < r.length; omega
end Go.Proofs.YtpnejoglkmfleaaGreatDoor
namespace Go.Proofs.YtpnejoglkmfleaaGreatDoor
set_option maxRecDepth 20000
open Go.RowKit
def slen2 : Value → Nat
  | .slice _ n _ => n
  | _ => 0
theorem u8_ofNat (m : Nat) : ((UInt8.ofNat m).toNat : Int) = (m : Int) % 256 := by
  rw [UInt8.toNat_ofNat']
  omega
set_option maxHeartbeats 1600000 in
theorem filling_any (n : Nat) (w : World) (hn : n ≤ 1099511627776) :
    Calls Tryz.prog 81 #[.int .u64 (n : Int)] w fun e w' => ∃ v, e = .returned v ∧ Own w.heap.size w' v (tailS n) ∧ Below w.heap.size w w' := by
  obtain ⟨i0, hi, hz0, hz1, hz2⟩ := info_parts info_u8
  have hb2 : i0.bytes * 73 ≤ 281474976710656 := by rw [hz2]; omega
  have hb3 : 73 ≤ maxLen := by unfold maxLen; omega
  have hnl := noughts_le n
  go_enter Tryz.func81, Tryz.ntmps81
  go_wp2_with (at_make; refine wpList_make_own _ rfl _ _ 73 rfl w.heap.size 5 i0 (.int .u8 0) 1 under_bytes hi hz0 hz1 _ _ _ 73 rfl rfl rfl hb2 hb3 (Nat.le_refl _) ?_)
  intro w0 hown0 hgrow0
  have hb0 : Below w.heap.size w w0 := (Below.refl _ _).grown hgrow0 (Nat.le_refl _) (fun k h => by cases h)
  have hv0 : Own w.heap.size w0 (.slice (some ⟨w.heap.size, 0, none⟩) 0 73) [] := hown0
  have hs0 := hb0.size
  clear hown0 hgrow0 hz0 hz1 hz2 hi hb2 hb3
  go_wp2_with (at_builtin; refine wpList_append_byt rfl (.tmp 6) (.tmp 7) rfl rfl rfl (hv0.alloc _) (byt_one _ _ 128 rfl) (by simp) (by simp; omega) ?_; intro v1 w1 hown1 hg1 _)
  have hb1 : Below w.heap.size w w1 := (hb0.alloc hs0 _).grown hg1 (by simp; omega) (fun k hk => (World.ownsRow.lt hv0 k hk).1)
  rw [List.nil_append] at hown1
  obtain ⟨A1, c1, rfl⟩ := hown1.byt.shape
  have hl1 : ([128] : List UInt8).length = 1 := rfl
  rw [hl1] at hown1 ⊢
  clear hg1 hl1
  try go_frame
  go_wp2_with fail
  go_loopw [3] (fun v wr => ∃ (z m : Nat) (A : Option Addr) (c : Nat), z ≤ noughts n ∧ Hid (m = z + 1) ∧ v = .slice A m c ∧ Hid (Own w.heap.size wr (.slice A m c) (128 :: List.replicate z 0)) ∧ Below w.heap.size w wr) (fun v _ => 100 - slen2 v)
  case atStart => exact ⟨0, 1, A1, c1, Nat.zero_le _, hid rfl, rfl, hid hown1, hb1⟩
  case round =>
    clear hown1 hb1 hv0 hb0 hs0
    obtain ⟨z, m, A, c, hz, HM, rfl, HO, hbw⟩ := hrel
    have hbs := hbw.size
    have hm : m ≤ 100 := by have := HM.out; omega
    by_cases hlt : z < noughts n
    · have ht : (((n : Int) + (m : Int) + 8) % 64 != 0) = true := by
        rw [bne_iff_ne]
        have := HM.out
        unfold noughts at hlt
        omega
      go_wp2_with (at_builtin; refine wpList_append_byt rfl (.tmp 17) (.tmp 18) rfl rfl rfl (HO.out.alloc _) (byt_one _ _ 0 rfl) (by simp; omega) (by simp; omega) ?_; intro v2 w2 hown2 hg2 _)
      have hb2 : Below w.heap.size w w2 := (hbw.alloc hbs _).grown hg2 (by simp; omega) (fun k hk => (World.ownsRow.lt HO.out k hk).1)
      have hl : (128 :: List.replicate z 0 : List UInt8) ++ [0] = 128 :: List.replicate (z + 1) 0 := by
        rw [List.replicate_succ', List.cons_append]
      rw [hl] at hown2
      clear hl hg2
      obtain ⟨A2, c2, rfl⟩ := hown2.byt.shape
      have hl2 : (128 :: List.replicate (z + 1) 0 : List UInt8).length = m + 1 := by simp; have := HM.out; omega
      rw [hl2] at hown2 ⊢
      have HO2 := hid hown2
      clear hl2 hown2
      try go_frame
      go_roundw
      case rel => exact ⟨z + 1, m + 1, A2, c2, by omega, hid (by have := HM.out; omega), rfl, HO2, hb2⟩
      case measure => show 100 - (m + 1) < 100 - m; have := HM.out; omega
    · have ht : (((n : Int) + (m : Int) + 8) % 64 != 0) = false := by
        rw [bne_eq_false_iff_eq]
        have := HM.out
        unfold noughts at hlt hz
        omega
      have HO3 : Hid (Own w.heap.size wr (.slice A m c) (128 :: List.replicate (noughts n) 0 ++ be8 (n * 8) 0)) := by
        have e : z = noughts n := by omega
        have := HO.out
        rw [e] at this
        have e2 : (128 :: List.replicate (noughts n) 0 ++ be8 (n * 8) 0 : List UInt8) = 128 :: List.replicate (noughts n) 0 := by simp [be8]
        rw [e2]
        exact hid this
      obtain ⟨wo, rfl⟩ : ∃ wo : World, wo = wr := ⟨_, rfl⟩
      go_wp2_with fail
      go_loopw [3, 4] (fun v s wr => ∃ (k : Nat) (x : Int) (A : Option Addr) (m c : Nat), k ≤ 8 ∧ Hid (x = 56 - 8 * (k : Int)) ∧ s = .int .i64 x ∧ v = .slice A m c ∧ m ≤ 120 ∧ Hid (Own w.heap.size wr (.slice A m c) (128 :: List.replicate (noughts n) 0 ++ be8 (n * 8) k)) ∧ Below w.heap.size w wr) (fun _ s _ => (intOf s + 8).toNat)
      case atStart => exact ⟨0, 56, A, m, c, by omega, hid (by omega), rfl, rfl, by omega, HO3, hbw⟩
      case round =>
        clear HO HO3 hbw hbs
        obtain ⟨k, x, A, m, c, hk, HX, rfl, rfl, hm, HO, hbw⟩ := hrel
        have hbs := hbw.size
        have hx1 : x ≤ 56 := by have := HX.out; omega
        have hx2 : -8 ≤ x := by have := HX.out; omega
        by_cases hlt2 : k < 8
        · have hx0 : 0 ≤ x := by have := HX.out; omega
          have hml : m = (128 :: List.replicate (noughts n) 0 ++ be8 (n * 8) k : List UInt8).length := HO.out.byt.at_.1
          have HML := hid hml
          clear hml
          have hq : (n : Int) * 8 / 2 ^ x.toNat % 256 = ((UInt8.ofNat (n * 8 / 2 ^ (56 - 8 * k))).toNat : Int) := by
            rw [u8_ofNat, show x.toNat = 56 - 8 * k from by have := HX.out; omega]
            simp
          have HQ := hid hq
          have hlen : (128 :: List.replicate (noughts n) 0 ++ be8 (n * 8) k : List UInt8).length + [UInt8.ofNat (n * 8 / 2 ^ (56 - 8 * k))].length ≤ 140737488355328 := by rw [← HML.out, List.length_singleton]; omega
          clear hq
          go_wp2_with (at_builtin; refine wpList_append_byt rfl (.tmp 24) (.tmp 30) rfl rfl rfl (HO.out.alloc _) (byt_one _ _ _ HQ.out) hlen (by simp; omega) ?_; intro v2 w2 hown2 hg2 _)
          have hb2 : Below w.heap.size w w2 := (hbw.alloc hbs _).grown hg2 (by simp; omega) (fun k hk => (World.ownsRow.lt HO.out k hk).1)
          have hl : (128 :: List.replicate (noughts n) 0 ++ be8 (n * 8) k : List UInt8) ++ [UInt8.ofNat (n * 8 / 2 ^ (56 - 8 * k))] = 128 :: List.replicate (noughts n) 0 ++ be8 (n * 8) (k + 1) := by
            rw [List.append_assoc]
            rfl
          rw [hl] at hown2
          clear hl hg2
          obtain ⟨A2, c2, rfl⟩ := hown2.byt.shape
          have hl2 : (128 :: List.replicate (noughts n) 0 ++ be8 (n * 8) (k + 1) : List UInt8).length = m + 1 := by
            have := HML.out
            simp only [List.length_append, List.length_cons, List.length_replicate, be8_length] at this ⊢
            omega
          have hml2 : m + 1 ≤ 120 := by
            have := HML.out
            simp only [List.length_append, List.length_cons, List.length_replicate, be8_length] at this
            omega
          rw [hl2] at hown2 ⊢
          have HO2 := hid hown2
          clear hl2 hown2
          go_roundw
          case rel => exact ⟨k + 1, x - 8, A2, m + 1, c2, by omega, hid (by have := HX.out; omega), rfl, rfl, hml2, HO2, hb2⟩
          case measure => simp [intOf]; omega
        · have hx0 : x < 0 := by have := HX.out; omega
          go_wp2_with fail
          go_ret
          have e : k = 8 := by omega
          subst e
          exact ⟨_, rfl, HO.out, hbw⟩
theorem start_any (w : World) : Calls Tryz.prog 79 #[] w fun e w' => e = .returned (.agg (fcells 8 fun j => wc (start j))) ∧ Below w.heap.size w w' := by
  go_enter Tryz.func79, Tryz.ntmps79
  go_wp2_with (first
    | (refine wpList_alloc_arr arrS rfl rfl ?_)
    | (refine wpList_store_arr arrS (f' := fun j => wc (start j)) rfl _ _ rfl rfl rfl (Blk.new w 8 (fun _ => wc 0) 118) (fun _ _ => rfl) ?_; intro w9 hg9 hC9 hs9))
  refine bodyPost_ret (arrS.result rfl _ _ rfl hC9) rfl ⟨rfl, ?_⟩
  exact below_into ((Below.refl _ _).alloc (Nat.le_refl _) _) (Nat.le_refl _) hg9 (by simp)
end Go.Proofs.YtpnejoglkmfleaaGreatDoor
