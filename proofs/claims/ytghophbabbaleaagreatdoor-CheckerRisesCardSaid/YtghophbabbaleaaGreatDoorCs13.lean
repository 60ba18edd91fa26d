/-
  AcPure AcWords AcMay AcOk AcCodeRise AcCodeFits: what each of them says stands at its head.
-/
import Derived.Test.YtghophbabbaleaaGreatDoorCs11
namespace Go.Proofs.YtghophbabbaleaaGreatDoor
set_option maxRecDepth 20000
structure AcM where
  bo : Int
  vi : Int
  pv : Int
  pa : List UInt8
  fr : List Int
  tg : List UInt8
  deriving DecidableEq
structure AcM.Ok (a : AcM) : Prop where
  pa : a.pa.length = 32
  tg : a.tg.length = 32
def risesI (top : Int) : Int → List Int → Bool
  | _, [] => true
  | last, x :: r => (decide (last < x) && decide (x ≤ top)) && risesI top x r
theorem risesI_mem {top : Int} : ∀ {l : List Int} {last : Int}, risesI top last l = true → ∀ x ∈ l, last < x ∧ x ≤ top
  | [], _, _, s, hs => by cases hs
  | x :: r, last, h, s, hs => by
    unfold risesI at h
    simp only [Bool.and_eq_true, decide_eq_true_eq] at h
    obtain ⟨⟨h1, h2⟩, h3⟩ := h
    rcases List.mem_cons.1 hs with rfl | hs
    · exact ⟨h1, h2⟩
    · have := risesI_mem h3 s hs
      omega
theorem risesI_nodup {top : Int} : ∀ {l : List Int} {last : Int}, risesI top last l = true → l.Nodup
  | [], _, _ => List.nodup_nil
  | x :: r, last, h => by
    unfold risesI at h
    simp only [Bool.and_eq_true, decide_eq_true_eq] at h
    rw [List.nodup_cons]
    refine ⟨fun hm => ?_, risesI_nodup h.2⟩
    have := (risesI_mem h.2 x hm).1
    omega
theorem risesI_len {l : List Int} {top : Nat} (h : risesI (top : Int) 0 l = true) : l.length ≤ top :=
  unlike_le top l (risesI_nodup h) (fun x hx => by
    have := risesI_mem h x hx
    omega)
def lastI (l : List Int) : Int := (l[l.length - 1]?).getD 0
theorem lastI_at {l : List Int} (h : 0 < l.length) : lastI l = l[l.length - 1] := by
  unfold lastI
  rw [List.getElem?_eq_getElem (by omega)]
  rfl
def mayX (a : AcM) : Bool := risesI 21 0 a.fr && decide (1 ≤ a.bo ∧ a.bo ≤ 21 ∧ 1 ≤ a.vi ∧ a.vi ≤ 1099511627776 ∧ 0 ≤ a.pv ∧ a.pv < a.vi ∧ 1 ≤ a.fr.length)
theorem mayX_iff {a : AcM} : mayX a = true ↔ risesI 21 0 a.fr = true ∧ (1 ≤ a.bo ∧ a.bo ≤ 21 ∧ 1 ≤ a.vi ∧ a.vi ≤ 1099511627776 ∧ 0 ≤ a.pv ∧ a.pv < a.vi ∧ 1 ≤ a.fr.length) := by
  unfold mayX
  simp only [Bool.and_eq_true, decide_eq_true_eq]
def frB (l : List Int) : List UInt8 := (l.map fun x => dg x.toNat).flatten
def taggedX (a : AcM) : List UInt8 := dg a.vi.toNat ++ (dg a.pv.toNat ++ (a.pa ++ (dg a.fr.length ++ frB a.fr)))
def tagX (a : AcM) : List UInt8 := hl 32 (tagF a.bo 2 (taggedX a))
theorem tagX_len (a : AcM) : (tagX a).length = 32 := hl_length _ _
def rightX (n : Int) (a : AcM) : Bool := decide (quoS n ≠ 0) && (mayX a && (decide (a.bo ≤ n) && (decide (a.fr.length = quoS n) && (decide (lastI a.fr ≤ n) && decide (a.tg = tagX a)))))
theorem frB_len (l : List Int) (h : ∀ x ∈ l, 1 ≤ x ∧ x ≤ 21) : (frB l).length = l.length := by
  unfold frB
  induction l with
  | nil => rfl
  | cons x r ih =>
    have hx := h x (by simp)
    rw [List.map_cons, List.flatten_cons, List.length_append, ih (fun y hy => h y (List.mem_cons_of_mem _ hy)), dg_small (by omega), List.length_cons, List.length_cons, List.length_nil]
    omega
theorem mayX_fr {a : AcM} (h : mayX a = true) : (∀ x ∈ a.fr, 1 ≤ x ∧ x ≤ 21) ∧ a.fr.length ≤ 21 := by
  have := (mayX_iff.1 h).1
  exact ⟨fun x hx => by have := risesI_mem this x hx; omega, risesI_len (top := 21) this⟩
theorem taggedX_len {a : AcM} (ho : a.Ok) (hm : mayX a = true) : (taggedX a).length ≤ 100 := by
  obtain ⟨_, h1, h2, h3, h4, h5, h6, h7⟩ := mayX_iff.1 hm
  obtain ⟨k1, k2⟩ := mayX_fr hm
  have e1 := dg_len10 (n := a.vi.toNat) (by omega)
  have e2 := dg_len10 (n := a.pv.toNat) (by omega)
  have e3 := dg_len10 (n := a.fr.length) (by omega)
  have := ho.pa
  have := frB_len a.fr k1
  unfold taggedX
  simp only [List.length_append]
  omega
end Go.Proofs.YtghophbabbaleaaGreatDoor
namespace Go.Proofs.YtghophbabbaleaaGreatDoor
set_option maxRecDepth 20000
open Go.RowKit
def axl (a : AcM) (s : Value) : List Value := [.int .i64 a.bo, .int .i64 a.vi, .int .i64 a.pv] ++ (bcells a.pa ++ (s :: bcells a.tg))
def axc (a : AcM) (s : Value) : Array Value := (axl a s).toArray
theorem axl_length {a : AcM} (s : Value) (h : a.Ok) : (axl a s).length = 68 := by simp [axl, bcells_length, h.pa, h.tg]
theorem axc_size {a : AcM} (s : Value) (h : a.Ok) : (axc a s).size = 68 := by simp [axc, axl_length s h]
theorem axl_pre (a : AcM) (s : Value) : axl a s = [.int .i64 a.bo, .int .i64 a.vi, .int .i64 a.pv] ++ (bcells a.pa ++ ([s] ++ bcells a.tg)) := rfl
theorem axl_tag (a : AcM) (s : Value) : axl a s = ([.int .i64 a.bo, .int .i64 a.vi, .int .i64 a.pv] ++ (bcells a.pa ++ [s])) ++ (bcells a.tg ++ []) := by
  unfold axl
  simp only [List.append_assoc, List.append_nil, List.cons_append, List.nil_append]
def AcV (w : World) (v : Value) (a : AcM) : Prop := ∃ s, v = .agg (axc a s) ∧ a.Ok ∧ Els icl 1 w s a.fr
theorem AcV.below {w w' : World} {v : Value} {a : AcM} (h : AcV w v a) (hb : Below w.heap.size w w') : AcV w' v a := by
  obtain ⟨s, rfl, h1, h2⟩ := h
  exact ⟨s, rfl, h1, h2.below hb⟩
def BoxX (w : World) (g : Nat) (a : AcM) (s : Value) : Prop := w.heap[g]? = some (.cells (axc a s) 50 (0, 0))
section
variable {w w' : World} {g : Nat} {a : AcM} {s : Value}
theorem BoxX.new (w : World) (a : AcM) (s : Value) : BoxX (w.alloc (.cells (axc a s) 50)) w.heap.size a s := heap_alloc_new w _
theorem BoxX.lt (h : BoxX w g a s) : g < w.heap.size := lt_of_block h
theorem BoxX.below {B : Nat} (h : BoxX w g a s) (hb : Below B w w') (hg : g < B) : BoxX w' g a s := (hb.block g hg).trans h
theorem BoxX.free (h : BoxX w g a s) (i : Nat) : w.frozen? ⟨g, i, none⟩ = false := free_blk h i
theorem BoxX.cell (h : BoxX w g a s) (i : Nat) : w.cell? ⟨g, i, none⟩ = (axl a s)[i]? := by
  rw [cell_blk h i]
  unfold axc
  rw [List.getElem?_toArray]
theorem BoxX.ints (h : BoxX w g a s) : w.cell? ⟨g, 0, none⟩ = some (.int .i64 a.bo) ∧ w.cell? ⟨g, 1, none⟩ = some (.int .i64 a.vi) ∧ w.cell? ⟨g, 2, none⟩ = some (.int .i64 a.pv) :=
  ⟨h.cell 0, h.cell 1, h.cell 2⟩
theorem BoxX.fr (h : BoxX w g a s) (ho : a.Ok) : w.cell? ⟨g, 35, none⟩ = some s := by
  rw [h.cell, axl_pre, List.getElem?_append_right (by simp), List.getElem?_append_right (by rw [bcells_length, ho.pa]; simp)]
  rw [bcells_length, ho.pa]
  rfl
theorem BoxX.pa (h : BoxX w g a s) : w.rangeAt g 3 (bcells a.pa) := fun j u hu => by
  rw [h.cell, axl_pre, List.getElem?_append_right (by simp)]
  simp only [List.length_cons, List.length_nil]
  rw [show 3 + j - (0 + 1 + 1 + 1) = j from by omega, List.getElem?_append_left (List.getElem?_eq_some_iff.1 hu).1]
  exact hu
theorem BoxX.tg (h : BoxX w g a s) (ho : a.Ok) : w.rangeAt g 36 (bcells a.tg) := fun j u hu => by
  rw [h.cell, axl_tag, List.append_nil, List.getElem?_append_right (by simp only [List.length_append, bcells_length, ho.pa, List.length_cons, List.length_nil]; omega)]
  simp only [List.length_append, bcells_length, ho.pa, List.length_cons, List.length_nil]
  rw [show 36 + j - (0 + 1 + 1 + 1 + (32 + (0 + 1))) = j from by omega]
  exact hu
end
noncomputable def loadAx (v : Value) (w : World) : Result Next := Sem.run Tryz.prog (execOp (fun _ => v) { dst := none, op := .load 50 (.tmp 0), type := 0, pos := "", after := #[], guard := none }) w
theorem exec_load_ax (r : Operand → Value) (x : Operand) (dst : Option Tmp) (ty : TypeId) (pos : String) (after : Array Edge) (guard : Option (Nat × Bool)) (w : World) :
    Sem.run Tryz.prog (execOp r { dst := dst, op := .load 50 x, type := ty, pos := pos, after := after, guard := guard }) w = loadAx (r x) w := rfl
theorem under_ax : Tryz.prog.underlying 50 = some (.struct (Tryz.prog.fieldsOf 50)) := by kernel_rfl
theorem size_ax : (Tryz.prog.info? 50).map (·.size) = some 68 := by kernel_rfl
theorem loadAx_row {w : World} {g : Nat} {C : Array Value} {T : TypeId} (h : w.heap[g]? = some (.cells C T (0, 0))) (hs : C.size = 68) : loadAx (.pointer (some ⟨g, 0, none⟩)) w = .ok (.value (.agg C)) w := by
  have := run_loadAt_mid (P := Tryz.prog) w g 0 50 C.toList _ (fun j v hj => by rw [Nat.zero_add, cell_blk h j]; simpa using hj) under_ax rfl (by rw [size_ax]; simp [hs])
  simp only [Array.toArray_toList] at this
  unfold loadAx execOp
  simp only [Sem.run_bind, this, Result.andThen_ok, Sem.run_pure]
end Go.Proofs.YtghophbabbaleaaGreatDoor
namespace Go.Proofs.YtghophbabbaleaaGreatDoor
set_option maxRecDepth 20000
open Go.RowKit
set_option maxHeartbeats 3200000 in
theorem refMay10_any (v : Value) (a : AcM) (w : World) (hv : AcV w v a) :
    Calls Tryz.prog 103 #[v] w fun e w' => e = .returned (.bool (mayX a)) ∧ Below w.heap.size w w' := by
  obtain ⟨s, rfl, ho, he⟩ := hv
  obtain ⟨A, c, rfl⟩ := he.shape
  obtain ⟨l, HFR⟩ : ∃ l : List Int, Hid (a.fr = l) := ⟨_, hid rfl⟩
  rw [HFR.out] at he ⊢
  obtain ⟨L, HL⟩ : ∃ n : Nat, Hid (l.length = n) := ⟨_, hid rfl⟩
  obtain ⟨ans, HAN⟩ : ∃ q : Bool, Hid (risesI 21 0 l = q) := ⟨_, hid rfl⟩
  obtain ⟨m, HMX⟩ : ∃ q : Bool, Hid (mayX a = q) := ⟨_, hid rfl⟩
  have HMA : Hid (m = (ans && decide (1 ≤ a.bo ∧ a.bo ≤ 21 ∧ 1 ≤ a.vi ∧ a.vi ≤ 1099511627776 ∧ 0 ≤ a.pv ∧ a.pv < a.vi ∧ 1 ≤ L))) := hid (by rw [← HMX.out, ← HAN.out, ← HL.out, ← HFR.out]; rfl)
  have hb0 : Below w.heap.size w (w.alloc (.cells (axc a (.slice A l.length c)) 50)) := (Below.refl _ _).alloc (Nat.le_refl _) _
  have hX := BoxX.new w a (.slice A l.length c)
  have hlen := he.len
  unfold maxLen at hlen
  have hc1 := he.at_.2.1
  have hc2 := he.at_.2.2.1
  have HV := hid (fun W (h : Below w.heap.size w W) => he.below h)
  rw [HL.out] at hlen hc1 hX hb0 HV ⊢
  rw [HMX.out]
  unfold maxLen at hc2
  obtain ⟨C, HC⟩ : ∃ C : Array Value, Hid (axc a (.slice A L c) = C) := ⟨_, hid rfl⟩
  rw [HC.out] at hX hb0 ⊢
  clear he
  go_enter Tryz.func103, Tryz.ntmps103
  go_upto_region 1 with (fail)
  generalize (w.alloc (.cells C 50)) = w0 at *
  have hl0 := hX.lt
  have HB0 := hid hb0
  have HX : Hid (∀ W, Below w0.heap.size w0 W → W.cell? ⟨w.heap.size, 35, none⟩ = some (.slice A L c) ∧ W.cell? ⟨w.heap.size, 0, none⟩ = some (.int .i64 a.bo) ∧ W.cell? ⟨w.heap.size, 1, none⟩ = some (.int .i64 a.vi) ∧ W.cell? ⟨w.heap.size, 2, none⟩ = some (.int .i64 a.pv)) := hid (fun W h => by
    have := hX.below h hl0
    exact ⟨this.fr ho, this.ints⟩)
  clear hX hl0 hb0 HC ho
  go_wp2_with fail
  go_loopw [3] (fun si wr => ∃ (i : Nat) (last : Int), i ≤ L ∧ si = .int .i64 i ∧ 0 ≤ last ∧ Hid (ans = risesI 21 last (l.drop i)) ∧ ((i = 0 ∧ last = 0) ∨ (∃ k, i = k + 1 ∧ ∃ h : k < l.length, l[k] = last)) ∧ Below w0.heap.size w0 wr) (fun si _ => L - (intOf si).toNat)
  case atStart => exact ⟨0, 0, Nat.zero_le _, rfl, Int.le_refl _, hid (by rw [List.drop_zero]; exact HAN.out.symm), .inl ⟨rfl, rfl⟩, Below.refl _ _⟩
  case round =>
    obtain ⟨i, last, hi, rfl, hlast, HR, hpre, hbr⟩ := hrel
    have hBR := HB0.out.trans (hbr.mono HB0.out.size)
    by_cases hlt : i < L
    · have hil : i < l.length := by rw [HL.out]; exact hlt
      obtain ⟨g, o, rfl, hg, hcl⟩ := (HV.out wr hBR).at_.2.2.2 (by omega)
      have HST : Hid (ans = ((decide (last < l[i]) && decide (l[i] ≤ 21)) && risesI 21 l[i] (l.drop (i + 1)))) := hid (by
        rw [HR.out, List.drop_eq_getElem_cons hil]
        rfl)
      obtain ⟨b, HBB⟩ : ∃ b : Int, Hid (l[i] = b) := ⟨_, hid rfl⟩
      have K : ∀ k (h : k < l.length), wr.drew.cell? ⟨g, o + k, none⟩ = some (.int .i64 l[k]) := fun k h => by
        have := hcl k h 0 _ rfl
        rwa [Nat.mul_one, Nat.add_zero] at this
      have hc : wr.drew.cell? ⟨g, o + i, none⟩ = some (.int .i64 b) := by rw [← HBB.out]; exact K i hil
      have k4 := (HX.out wr hbr).1
      have k4d := (HX.out wr.drew hbr.drew).1
      rw [HBB.out] at HST
      have hI : (i : Int) < (L : Int) := by omega
      have hbd := hBR.drew
      have hbw := hbr.drew
      by_cases h1 : b < 1
      · obtain rfl : ans = false := by rw [HST.out, decide_eq_false (by omega)]; rfl
        obtain rfl : m = false := HMA.out
        clear hcl K
        go_upto_region 4 with (fail)
        refine wp_region_held_drew (S := fun W => W.cell? ⟨w.heap.size, 35, none⟩ = some (.slice (some ⟨g, o, none⟩) L c) ∧ W.cell? ⟨g, o + i, none⟩ = some (.int .i64 b)) (by kernel_rfl) ⟨k4d, hc⟩ (fun hHeld => ?_)
        refine' tk (i := 0) (v := _) rfl ?_ ?_
        rotate_left
        · (intro W hW; (try dsimp only at hW); obtain ⟨hW1, hW2⟩ := hW; go_simp; first | done | with_reducible rfl)
        try simp only [lay]
        refine' tk (i := 1) (v := _) rfl ?_ ?_
        rotate_left
        · (intro W hW; (try dsimp only at hW); obtain ⟨hW1, hW2⟩ := hW; go_simp; first | done | with_reducible rfl)
        try simp only [lay]
        refine' tk (i := 2) (v := _) rfl ?_ ?_
        rotate_left
        · (intro W hW; (try dsimp only at hW); obtain ⟨hW1, hW2⟩ := hW; go_simp; first | done | with_reducible rfl)
        try simp only [lay]
        refine' tk (i := 3) (v := _) rfl ?_ ?_
        rotate_left
        · (intro W hW; (try dsimp only at hW); obtain ⟨hW1, hW2⟩ := hW; go_simp; first | done | with_reducible rfl)
        try simp only [lay]
        refine' tk (i := 4) (v := _) rfl ?_ ?_
        rotate_left
        · (intro W hW; (try dsimp only at hW); obtain ⟨hW1, hW2⟩ := hW; go_simp; first | done | with_reducible rfl)
        try simp only [lay]
        refine' tk (i := 5) (v := _) rfl ?_ ?_
        rotate_left
        · (intro W hW; (try dsimp only at hW); obtain ⟨hW1, hW2⟩ := hW; go_simp; first | done | with_reducible rfl)
        try simp only [lay]
        refine' tk (i := 6) (v := _) rfl ?_ ?_
        rotate_left
        · (intro W hW; (try dsimp only at hW); obtain ⟨hW1, hW2⟩ := hW; go_simp; first | done | with_reducible rfl)
        try simp only [lay]
        refine tf (i := 7) rfl ?_
        try simp only [lay]
        refine tf (i := 8) rfl ?_
        try simp only [lay]
        refine tf (i := 9) rfl ?_
        try simp only [lay]
        refine tf (i := 10) rfl ?_
        try simp only [lay]
        refine tf (i := 11) rfl ?_
        try simp only [lay]
        refine tf (i := 12) rfl ?_
        try simp only [lay]
        refine' tk (i := 13) (v := _) rfl ?_ ?_
        rotate_left
        · (intro W hW; (try dsimp only at hW); obtain ⟨hW1, hW2⟩ := hW; go_simp; first | done | with_reducible rfl)
        try simp only [lay]
        refine' tk (i := 14) (v := _) rfl ?_ ?_
        rotate_left
        · (intro W hW; (try dsimp only at hW); obtain ⟨hW1, hW2⟩ := hW; go_simp; first | done | with_reducible rfl)
        try simp only [lay]
        refine tf (i := 15) rfl ?_
        try simp only [lay]
        refine tf (i := 16) rfl ?_
        try simp only [lay]
        refine tf (i := 17) rfl ?_
        try simp only [lay]
        refine tf (i := 18) rfl ?_
        try simp only [lay]
        refine tf (i := 19) rfl ?_
        try simp only [lay]
        refine tf (i := 20) rfl ?_
        try simp only [lay]
        refine tf (i := 21) rfl ?_
        try simp only [lay]
        refine tf (i := 22) rfl ?_
        try simp only [lay]
        refine tf (i := 23) rfl ?_
        try simp only [lay]
        refine tf (i := 24) rfl ?_
        try simp only [lay]
        refine tf (i := 25) rfl ?_
        try simp only [lay]
        refine tf (i := 26) rfl ?_
        try simp only [lay]
        refine tf (i := 27) rfl ?_
        try simp only [lay]
        refine tf (i := 28) rfl ?_
        try simp only [lay]
        refine tf (i := 29) rfl ?_
        try simp only [lay]
        refine tf (i := 30) rfl ?_
        try simp only [lay]
        refine' tk (i := 31) (v := _) rfl ?_ ?_
        rotate_left
        · (intro W hW; (try dsimp only at hW); obtain ⟨hW1, hW2⟩ := hW; go_simp; first | done | with_reducible rfl)
        try simp only [lay]
        refine wpAnyH_done (by kernel_rfl) ?_ _
        go_wp2_with fail
        go_ret
        exact ⟨rfl, hbd⟩
      · by_cases h2 : 21 < b
        · obtain rfl : ans = false := by rw [HST.out, decide_eq_false (show ¬ b ≤ 21 by omega), Bool.and_false]; rfl
          obtain rfl : m = false := HMA.out
          clear hcl K
          go_upto_region 4 with (fail)
          refine wp_region_held_drew (S := fun W => W.cell? ⟨w.heap.size, 35, none⟩ = some (.slice (some ⟨g, o, none⟩) L c) ∧ W.cell? ⟨g, o + i, none⟩ = some (.int .i64 b)) (by kernel_rfl) ⟨k4d, hc⟩ (fun hHeld => ?_)
          refine' tk (i := 0) (v := _) rfl ?_ ?_
          rotate_left
          · (intro W hW; (try dsimp only at hW); obtain ⟨hW1, hW2⟩ := hW; go_simp; first | done | with_reducible rfl)
          try simp only [lay]
          refine' tk (i := 1) (v := _) rfl ?_ ?_
          rotate_left
          · (intro W hW; (try dsimp only at hW); obtain ⟨hW1, hW2⟩ := hW; go_simp; first | done | with_reducible rfl)
          try simp only [lay]
          refine' tk (i := 2) (v := _) rfl ?_ ?_
          rotate_left
          · (intro W hW; (try dsimp only at hW); obtain ⟨hW1, hW2⟩ := hW; go_simp; first | done | with_reducible rfl)
          try simp only [lay]
          refine' tk (i := 3) (v := _) rfl ?_ ?_
          rotate_left
          · (intro W hW; (try dsimp only at hW); obtain ⟨hW1, hW2⟩ := hW; go_simp; first | done | with_reducible rfl)
          try simp only [lay]
          refine' tk (i := 4) (v := _) rfl ?_ ?_
          rotate_left
          · (intro W hW; (try dsimp only at hW); obtain ⟨hW1, hW2⟩ := hW; go_simp; first | done | with_reducible rfl)
          try simp only [lay]
          refine' tk (i := 5) (v := _) rfl ?_ ?_
          rotate_left
          · (intro W hW; (try dsimp only at hW); obtain ⟨hW1, hW2⟩ := hW; go_simp; first | done | with_reducible rfl)
          try simp only [lay]
          refine' tk (i := 6) (v := _) rfl ?_ ?_
          rotate_left
          · (intro W hW; (try dsimp only at hW); obtain ⟨hW1, hW2⟩ := hW; go_simp; first | done | with_reducible rfl)
          try simp only [lay]
          refine' tk (i := 7) (v := _) rfl ?_ ?_
          rotate_left
          · (intro W hW; (try dsimp only at hW); obtain ⟨hW1, hW2⟩ := hW; go_simp; first | done | with_reducible rfl)
          try simp only [lay]
          refine' tk (i := 8) (v := _) rfl ?_ ?_
          rotate_left
          · (intro W hW; (try dsimp only at hW); obtain ⟨hW1, hW2⟩ := hW; go_simp; first | done | with_reducible rfl)
          try simp only [lay]
          refine' tk (i := 9) (v := _) rfl ?_ ?_
          rotate_left
          · (intro W hW; (try dsimp only at hW); obtain ⟨hW1, hW2⟩ := hW; go_simp; first | done | with_reducible rfl)
          try simp only [lay]
          refine' tk (i := 10) (v := _) rfl ?_ ?_
          rotate_left
          · (intro W hW; (try dsimp only at hW); obtain ⟨hW1, hW2⟩ := hW; go_simp; first | done | with_reducible rfl)
          try simp only [lay]
          refine' tk (i := 11) (v := _) rfl ?_ ?_
          rotate_left
          · (intro W hW; (try dsimp only at hW); obtain ⟨hW1, hW2⟩ := hW; go_simp; first | done | with_reducible rfl)
          try simp only [lay]
          refine' tk (i := 12) (v := _) rfl ?_ ?_
          rotate_left
          · (intro W hW; (try dsimp only at hW); obtain ⟨hW1, hW2⟩ := hW; go_simp; first | done | with_reducible rfl)
          try simp only [lay]
          refine' tk (i := 13) (v := _) rfl ?_ ?_
          rotate_left
          · (intro W hW; (try dsimp only at hW); obtain ⟨hW1, hW2⟩ := hW; go_simp; first | done | with_reducible rfl)
          try simp only [lay]
          refine' tk (i := 14) (v := _) rfl ?_ ?_
          rotate_left
          · (intro W hW; (try dsimp only at hW); obtain ⟨hW1, hW2⟩ := hW; go_simp; first | done | with_reducible rfl)
          try simp only [lay]
          refine tf (i := 15) rfl ?_
          try simp only [lay]
          refine tf (i := 16) rfl ?_
          try simp only [lay]
          refine tf (i := 17) rfl ?_
          try simp only [lay]
          refine tf (i := 18) rfl ?_
          try simp only [lay]
          refine tf (i := 19) rfl ?_
          try simp only [lay]
          refine tf (i := 20) rfl ?_
          try simp only [lay]
          refine tf (i := 21) rfl ?_
          try simp only [lay]
          refine tf (i := 22) rfl ?_
          try simp only [lay]
          refine tf (i := 23) rfl ?_
          try simp only [lay]
          refine tf (i := 24) rfl ?_
          try simp only [lay]
          refine tf (i := 25) rfl ?_
          try simp only [lay]
          refine tf (i := 26) rfl ?_
          try simp only [lay]
          refine tf (i := 27) rfl ?_
          try simp only [lay]
          refine tf (i := 28) rfl ?_
          try simp only [lay]
          refine tf (i := 29) rfl ?_
          try simp only [lay]
          refine tf (i := 30) rfl ?_
          try simp only [lay]
          refine' tk (i := 31) (v := _) rfl ?_ ?_
          rotate_left
          · (intro W hW; (try dsimp only at hW); obtain ⟨hW1, hW2⟩ := hW; go_simp; first | done | with_reducible rfl)
          try simp only [lay]
          refine wpAnyH_done (by kernel_rfl) ?_ _
          go_wp2_with fail
          go_ret
          exact ⟨rfl, hbd⟩
        · rcases hpre with ⟨rfl, rfl⟩ | ⟨k, rfl, hk, rfl⟩
          · clear hcl K
            rw [Nat.add_zero] at hc
            go_upto_region 4 with (fail)
            refine wp_region_held_drew (S := fun W => W.cell? ⟨w.heap.size, 35, none⟩ = some (.slice (some ⟨g, o, none⟩) L c) ∧ W.cell? ⟨g, o, none⟩ = some (.int .i64 b)) (by kernel_rfl) ⟨k4d, hc⟩ (fun hHeld => ?_)
            refine' tk (i := 0) (v := _) rfl ?_ ?_
            rotate_left
            · (intro W hW; (try dsimp only at hW); obtain ⟨hW1, hW2⟩ := hW; go_simp; first | done | with_reducible rfl)
            try simp only [lay]
            refine' tk (i := 1) (v := _) rfl ?_ ?_
            rotate_left
            · (intro W hW; (try dsimp only at hW); obtain ⟨hW1, hW2⟩ := hW; go_simp; first | done | with_reducible rfl)
            try simp only [lay]
            refine' tk (i := 2) (v := _) rfl ?_ ?_
            rotate_left
            · (intro W hW; (try dsimp only at hW); obtain ⟨hW1, hW2⟩ := hW; go_simp; first | done | with_reducible rfl)
            try simp only [lay]
            refine' tk (i := 3) (v := _) rfl ?_ ?_
            rotate_left
            · (intro W hW; (try dsimp only at hW); obtain ⟨hW1, hW2⟩ := hW; go_simp; first | done | with_reducible rfl)
            try simp only [lay]
            refine' tk (i := 4) (v := _) rfl ?_ ?_
            rotate_left
            · (intro W hW; (try dsimp only at hW); obtain ⟨hW1, hW2⟩ := hW; go_simp; first | done | with_reducible rfl)
            try simp only [lay]
            refine' tk (i := 5) (v := _) rfl ?_ ?_
            rotate_left
            · (intro W hW; (try dsimp only at hW); obtain ⟨hW1, hW2⟩ := hW; go_simp; first | done | with_reducible rfl)
            try simp only [lay]
            refine' tk (i := 6) (v := _) rfl ?_ ?_
            rotate_left
            · (intro W hW; (try dsimp only at hW); obtain ⟨hW1, hW2⟩ := hW; go_simp; first | done | with_reducible rfl)
            try simp only [lay]
            refine' tk (i := 7) (v := _) rfl ?_ ?_
            rotate_left
            · (intro W hW; (try dsimp only at hW); obtain ⟨hW1, hW2⟩ := hW; go_simp; first | done | with_reducible rfl)
            try simp only [lay]
            refine' tk (i := 8) (v := _) rfl ?_ ?_
            rotate_left
            · (intro W hW; (try dsimp only at hW); obtain ⟨hW1, hW2⟩ := hW; go_simp; first | done | with_reducible rfl)
            try simp only [lay]
            refine' tk (i := 9) (v := _) rfl ?_ ?_
            rotate_left
            · (intro W hW; (try dsimp only at hW); obtain ⟨hW1, hW2⟩ := hW; go_simp; first | done | with_reducible rfl)
            try simp only [lay]
            refine' tk (i := 10) (v := _) rfl ?_ ?_
            rotate_left
            · (intro W hW; (try dsimp only at hW); obtain ⟨hW1, hW2⟩ := hW; go_simp; first | done | with_reducible rfl)
            try simp only [lay]
            refine' tk (i := 11) (v := _) rfl ?_ ?_
            rotate_left
            · (intro W hW; (try dsimp only at hW); obtain ⟨hW1, hW2⟩ := hW; go_simp; first | done | with_reducible rfl)
            try simp only [lay]
            refine' tk (i := 12) (v := _) rfl ?_ ?_
            rotate_left
            · (intro W hW; (try dsimp only at hW); obtain ⟨hW1, hW2⟩ := hW; go_simp; first | done | with_reducible rfl)
            try simp only [lay]
            refine' tk (i := 13) (v := _) rfl ?_ ?_
            rotate_left
            · (intro W hW; (try dsimp only at hW); obtain ⟨hW1, hW2⟩ := hW; go_simp; first | done | with_reducible rfl)
            try simp only [lay]
            refine' tk (i := 14) (v := _) rfl ?_ ?_
            rotate_left
            · (intro W hW; (try dsimp only at hW); obtain ⟨hW1, hW2⟩ := hW; go_simp; first | done | with_reducible rfl)
            try simp only [lay]
            refine' tk (i := 15) (v := _) rfl ?_ ?_
            rotate_left
            · (intro W hW; (try dsimp only at hW); obtain ⟨hW1, hW2⟩ := hW; go_simp; first | done | with_reducible rfl)
            try simp only [lay]
            refine' tk (i := 16) (v := _) rfl ?_ ?_
            rotate_left
            · (intro W hW; (try dsimp only at hW); obtain ⟨hW1, hW2⟩ := hW; go_simp; first | done | with_reducible rfl)
            try simp only [lay]
            refine' tk (i := 17) (v := _) rfl ?_ ?_
            rotate_left
            · (intro W hW; (try dsimp only at hW); obtain ⟨hW1, hW2⟩ := hW; go_simp; first | done | with_reducible rfl)
            try simp only [lay]
            refine tf (i := 18) rfl ?_
            try simp only [lay]
            refine tf (i := 19) rfl ?_
            try simp only [lay]
            refine tf (i := 20) rfl ?_
            try simp only [lay]
            refine tf (i := 21) rfl ?_
            try simp only [lay]
            refine tf (i := 22) rfl ?_
            try simp only [lay]
            refine tf (i := 23) rfl ?_
            try simp only [lay]
            refine tf (i := 24) rfl ?_
            try simp only [lay]
            refine tf (i := 25) rfl ?_
            try simp only [lay]
            refine tf (i := 26) rfl ?_
            try simp only [lay]
            refine tf (i := 27) rfl ?_
            try simp only [lay]
            refine tf (i := 28) rfl ?_
            try simp only [lay]
            refine tf (i := 29) rfl ?_
            try simp only [lay]
            refine' tk (i := 30) (v := _) rfl ?_ ?_
            rotate_left
            · (intro W hW; (try dsimp only at hW); obtain ⟨hW1, hW2⟩ := hW; go_simp; first | done | with_reducible rfl)
            try simp only [lay]
            refine' tk (i := 31) (v := _) rfl ?_ ?_
            rotate_left
            · (intro W hW; (try dsimp only at hW); obtain ⟨hW1, hW2⟩ := hW; go_simp; first | done | with_reducible rfl)
            try simp only [lay]
            refine wpAnyH_done (by kernel_rfl) ?_ _
            go_wp2_with fail
            go_roundw
            case rel => exact ⟨0 + 1, b, by omega, by go_num, by omega, hid (by rw [HST.out, decide_eq_true (by omega), decide_eq_true (by omega)]; simp), .inr ⟨0, rfl, hil, HBB.out⟩, hbw⟩
            case measure => simp [intOf]; omega
          · obtain ⟨p, HPP⟩ : ∃ p : Int, Hid (l[k] = p) := ⟨_, hid rfl⟩
            have hd : wr.drew.cell? ⟨g, o + k, none⟩ = some (.int .i64 p) := by rw [← HPP.out]; exact K k hk
            rw [HPP.out] at HST hlast
            have hkL : (k : Int) < (L : Int) := by omega
            have hk1 : (0 : Int) < ((k + 1 : Nat) : Int) := by omega
            have hwk : IntKind.i64.wrap (((k + 1 : Nat) : Int) - 1) = (k : Int) := by rw [IntKind.wrap_i64]; omega
            have hk2 : (0 : Int) < (k : Int) + 1 := by omega
            have hk0 : (0 : Int) ≤ (k : Int) + 1 := by omega
            have hI2 : (k : Int) + 1 < (L : Int) := by omega
            have hwk2 : IntKind.i64.wrap ((k : Int) + 1 - 1) = (k : Int) := by rw [IntKind.wrap_i64]; omega
            have hwk3 : IntKind.i64.wrap (k : Int) = (k : Int) := by rw [IntKind.wrap_i64]; omega
            by_cases h3 : p < b
            · have h3' : ¬ b ≤ p := by omega
              clear hcl K
              go_upto_region 4 with (fail)
              refine wp_region_held_drew (S := fun W => W.cell? ⟨w.heap.size, 35, none⟩ = some (.slice (some ⟨g, o, none⟩) L c) ∧ W.cell? ⟨g, o + (k + 1), none⟩ = some (.int .i64 b) ∧ W.cell? ⟨g, o + k, none⟩ = some (.int .i64 p)) (by kernel_rfl) ⟨k4d, hc, hd⟩ (fun hHeld => ?_)
              refine' tk (i := 0) (v := _) rfl ?_ ?_
              rotate_left
              · (intro W hW; (try dsimp only at hW); obtain ⟨hW1, hW2, hW3⟩ := hW; go_simp; first | done | with_reducible rfl)
              try simp only [lay]
              refine' tk (i := 1) (v := _) rfl ?_ ?_
              rotate_left
              · (intro W hW; (try dsimp only at hW); obtain ⟨hW1, hW2, hW3⟩ := hW; go_simp; first | done | with_reducible rfl)
              try simp only [lay]
              refine' tk (i := 2) (v := _) rfl ?_ ?_
              rotate_left
              · (intro W hW; (try dsimp only at hW); obtain ⟨hW1, hW2, hW3⟩ := hW; go_simp; first | done | with_reducible rfl)
              try simp only [lay]
              refine' tk (i := 3) (v := _) rfl ?_ ?_
              rotate_left
              · (intro W hW; (try dsimp only at hW); obtain ⟨hW1, hW2, hW3⟩ := hW; go_simp; first | done | with_reducible rfl)
              try simp only [lay]
              refine' tk (i := 4) (v := _) rfl ?_ ?_
              rotate_left
              · (intro W hW; (try dsimp only at hW); obtain ⟨hW1, hW2, hW3⟩ := hW; go_simp; first | done | with_reducible rfl)
              try simp only [lay]
              refine' tk (i := 5) (v := _) rfl ?_ ?_
              rotate_left
              · (intro W hW; (try dsimp only at hW); obtain ⟨hW1, hW2, hW3⟩ := hW; go_simp; first | done | with_reducible rfl)
              try simp only [lay]
              refine' tk (i := 6) (v := _) rfl ?_ ?_
              rotate_left
              · (intro W hW; (try dsimp only at hW); obtain ⟨hW1, hW2, hW3⟩ := hW; go_simp; first | done | with_reducible rfl)
              try simp only [lay]
              refine' tk (i := 7) (v := _) rfl ?_ ?_
              rotate_left
              · (intro W hW; (try dsimp only at hW); obtain ⟨hW1, hW2, hW3⟩ := hW; go_simp; first | done | with_reducible rfl)
              try simp only [lay]
              refine' tk (i := 8) (v := _) rfl ?_ ?_
              rotate_left
              · (intro W hW; (try dsimp only at hW); obtain ⟨hW1, hW2, hW3⟩ := hW; go_simp; first | done | with_reducible rfl)
              try simp only [lay]
              refine' tk (i := 9) (v := _) rfl ?_ ?_
              rotate_left
              · (intro W hW; (try dsimp only at hW); obtain ⟨hW1, hW2, hW3⟩ := hW; go_simp; first | done | with_reducible rfl)
              try simp only [lay]
              refine' tk (i := 10) (v := _) rfl ?_ ?_
              rotate_left
              · (intro W hW; (try dsimp only at hW); obtain ⟨hW1, hW2, hW3⟩ := hW; go_simp; first | done | with_reducible rfl)
              try simp only [lay]
              refine' tk (i := 11) (v := _) rfl ?_ ?_
              rotate_left
              · (intro W hW; (try dsimp only at hW); obtain ⟨hW1, hW2, hW3⟩ := hW; go_simp; first | done | with_reducible rfl)
              try simp only [lay]
              refine' tk (i := 12) (v := _) rfl ?_ ?_
              rotate_left
              · (intro W hW; (try dsimp only at hW); obtain ⟨hW1, hW2, hW3⟩ := hW; go_simp; first | done | with_reducible rfl)
              try simp only [lay]
              refine' tk (i := 13) (v := _) rfl ?_ ?_
              rotate_left
              · (intro W hW; (try dsimp only at hW); obtain ⟨hW1, hW2, hW3⟩ := hW; go_simp; first | done | with_reducible rfl)
              try simp only [lay]
              refine' tk (i := 14) (v := _) rfl ?_ ?_
              rotate_left
              · (intro W hW; (try dsimp only at hW); obtain ⟨hW1, hW2, hW3⟩ := hW; go_simp; first | done | with_reducible rfl)
              try simp only [lay]
              refine' tk (i := 15) (v := _) rfl ?_ ?_
              rotate_left
              · (intro W hW; (try dsimp only at hW); obtain ⟨hW1, hW2, hW3⟩ := hW; go_simp; first | done | with_reducible rfl)
              try simp only [lay]
              refine' tk (i := 16) (v := _) rfl ?_ ?_
              rotate_left
              · (intro W hW; (try dsimp only at hW); obtain ⟨hW1, hW2, hW3⟩ := hW; go_simp; first | done | with_reducible rfl)
              try simp only [lay]
              refine' tk (i := 17) (v := _) rfl ?_ ?_
              rotate_left
              · (intro W hW; (try dsimp only at hW); obtain ⟨hW1, hW2, hW3⟩ := hW; go_simp; first | done | with_reducible rfl)
              try simp only [lay]
              refine' tk (i := 18) (v := _) rfl ?_ ?_
              rotate_left
              · (intro W hW; (try dsimp only at hW); obtain ⟨hW1, hW2, hW3⟩ := hW; go_simp; first | done | with_reducible rfl)
              try simp only [lay]
              refine' tk (i := 19) (v := _) rfl ?_ ?_
              rotate_left
              · (intro W hW; (try dsimp only at hW); obtain ⟨hW1, hW2, hW3⟩ := hW; go_simp; first | done | with_reducible rfl)
              try simp only [lay]
              refine' tk (i := 20) (v := _) rfl ?_ ?_
              rotate_left
              · (intro W hW; (try dsimp only at hW); obtain ⟨hW1, hW2, hW3⟩ := hW; go_simp; first | done | with_reducible rfl)
              try simp only [lay]
              refine' tk (i := 21) (v := _) rfl ?_ ?_
              rotate_left
              · (intro W hW; (try dsimp only at hW); obtain ⟨hW1, hW2, hW3⟩ := hW; go_simp; first | done | with_reducible rfl)
              try simp only [lay]
              refine' tk (i := 22) (v := _) rfl ?_ ?_
              rotate_left
              · (intro W hW; (try dsimp only at hW); obtain ⟨hW1, hW2, hW3⟩ := hW; go_simp; first | done | with_reducible rfl)
              try simp only [lay]
              refine' tk (i := 23) (v := _) rfl ?_ ?_
              rotate_left
              · (intro W hW; (try dsimp only at hW); obtain ⟨hW1, hW2, hW3⟩ := hW; go_simp; first | done | with_reducible rfl)
              try simp only [lay]
              refine' tk (i := 24) (v := _) rfl ?_ ?_
              rotate_left
              · (intro W hW; (try dsimp only at hW); obtain ⟨hW1, hW2, hW3⟩ := hW; go_simp; first | done | with_reducible rfl)
              try simp only [lay]
              refine' tk (i := 25) (v := _) rfl ?_ ?_
              rotate_left
              · (intro W hW; (try dsimp only at hW); obtain ⟨hW1, hW2, hW3⟩ := hW; go_simp; first | done | with_reducible rfl)
              try simp only [lay]
              refine' tk (i := 26) (v := _) rfl ?_ ?_
              rotate_left
              · (intro W hW; (try dsimp only at hW); obtain ⟨hW1, hW2, hW3⟩ := hW; go_simp; first | done | with_reducible rfl)
              try simp only [lay]
              refine' tk (i := 27) (v := _) rfl ?_ ?_
              rotate_left
              · (intro W hW; (try dsimp only at hW); obtain ⟨hW1, hW2, hW3⟩ := hW; go_simp; first | done | with_reducible rfl)
              try simp only [lay]
              refine' tk (i := 28) (v := _) rfl ?_ ?_
              rotate_left
              · (intro W hW; (try dsimp only at hW); obtain ⟨hW1, hW2, hW3⟩ := hW; go_simp; first | done | with_reducible rfl)
              try simp only [lay]
              refine' tk (i := 29) (v := _) rfl ?_ ?_
              rotate_left
              · (intro W hW; (try dsimp only at hW); obtain ⟨hW1, hW2, hW3⟩ := hW; go_simp; first | done | with_reducible rfl)
              try simp only [lay]
              refine' tk (i := 30) (v := _) rfl ?_ ?_
              rotate_left
              · (intro W hW; (try dsimp only at hW); obtain ⟨hW1, hW2, hW3⟩ := hW; go_simp; first | done | with_reducible rfl)
              try simp only [lay]
              refine' tk (i := 31) (v := _) rfl ?_ ?_
              rotate_left
              · (intro W hW; (try dsimp only at hW); obtain ⟨hW1, hW2, hW3⟩ := hW; go_simp; first | done | with_reducible rfl)
              try simp only [lay]
              refine wpAnyH_done (by kernel_rfl) ?_ _
              go_wp2_with fail
              go_roundw
              case rel => exact ⟨k + 1 + 1, b, by omega, by go_num, by omega, hid (by rw [HST.out, decide_eq_true h3, decide_eq_true (by omega)]; simp), .inr ⟨k + 1, rfl, hil, HBB.out⟩, hbw⟩
              case measure => simp [intOf]; omega
            · have h3' : b ≤ p := by omega
              obtain rfl : ans = false := by rw [HST.out, decide_eq_false h3]; rfl
              obtain rfl : m = false := HMA.out
              clear hcl K
              go_upto_region 4 with (fail)
              refine wp_region_held_drew (S := fun W => W.cell? ⟨w.heap.size, 35, none⟩ = some (.slice (some ⟨g, o, none⟩) L c) ∧ W.cell? ⟨g, o + (k + 1), none⟩ = some (.int .i64 b) ∧ W.cell? ⟨g, o + k, none⟩ = some (.int .i64 p)) (by kernel_rfl) ⟨k4d, hc, hd⟩ (fun hHeld => ?_)
              refine' tk (i := 0) (v := _) rfl ?_ ?_
              rotate_left
              · (intro W hW; (try dsimp only at hW); obtain ⟨hW1, hW2, hW3⟩ := hW; go_simp; first | done | with_reducible rfl)
              try simp only [lay]
              refine' tk (i := 1) (v := _) rfl ?_ ?_
              rotate_left
              · (intro W hW; (try dsimp only at hW); obtain ⟨hW1, hW2, hW3⟩ := hW; go_simp; first | done | with_reducible rfl)
              try simp only [lay]
              refine' tk (i := 2) (v := _) rfl ?_ ?_
              rotate_left
              · (intro W hW; (try dsimp only at hW); obtain ⟨hW1, hW2, hW3⟩ := hW; go_simp; first | done | with_reducible rfl)
              try simp only [lay]
              refine' tk (i := 3) (v := _) rfl ?_ ?_
              rotate_left
              · (intro W hW; (try dsimp only at hW); obtain ⟨hW1, hW2, hW3⟩ := hW; go_simp; first | done | with_reducible rfl)
              try simp only [lay]
              refine' tk (i := 4) (v := _) rfl ?_ ?_
              rotate_left
              · (intro W hW; (try dsimp only at hW); obtain ⟨hW1, hW2, hW3⟩ := hW; go_simp; first | done | with_reducible rfl)
              try simp only [lay]
              refine' tk (i := 5) (v := _) rfl ?_ ?_
              rotate_left
              · (intro W hW; (try dsimp only at hW); obtain ⟨hW1, hW2, hW3⟩ := hW; go_simp; first | done | with_reducible rfl)
              try simp only [lay]
              refine' tk (i := 6) (v := _) rfl ?_ ?_
              rotate_left
              · (intro W hW; (try dsimp only at hW); obtain ⟨hW1, hW2, hW3⟩ := hW; go_simp; first | done | with_reducible rfl)
              try simp only [lay]
              refine' tk (i := 7) (v := _) rfl ?_ ?_
              rotate_left
              · (intro W hW; (try dsimp only at hW); obtain ⟨hW1, hW2, hW3⟩ := hW; go_simp; first | done | with_reducible rfl)
              try simp only [lay]
              refine' tk (i := 8) (v := _) rfl ?_ ?_
              rotate_left
              · (intro W hW; (try dsimp only at hW); obtain ⟨hW1, hW2, hW3⟩ := hW; go_simp; first | done | with_reducible rfl)
              try simp only [lay]
              refine' tk (i := 9) (v := _) rfl ?_ ?_
              rotate_left
              · (intro W hW; (try dsimp only at hW); obtain ⟨hW1, hW2, hW3⟩ := hW; go_simp; first | done | with_reducible rfl)
              try simp only [lay]
              refine' tk (i := 10) (v := _) rfl ?_ ?_
              rotate_left
              · (intro W hW; (try dsimp only at hW); obtain ⟨hW1, hW2, hW3⟩ := hW; go_simp; first | done | with_reducible rfl)
              try simp only [lay]
              refine' tk (i := 11) (v := _) rfl ?_ ?_
              rotate_left
              · (intro W hW; (try dsimp only at hW); obtain ⟨hW1, hW2, hW3⟩ := hW; go_simp; first | done | with_reducible rfl)
              try simp only [lay]
              refine' tk (i := 12) (v := _) rfl ?_ ?_
              rotate_left
              · (intro W hW; (try dsimp only at hW); obtain ⟨hW1, hW2, hW3⟩ := hW; go_simp; first | done | with_reducible rfl)
              try simp only [lay]
              refine' tk (i := 13) (v := _) rfl ?_ ?_
              rotate_left
              · (intro W hW; (try dsimp only at hW); obtain ⟨hW1, hW2, hW3⟩ := hW; go_simp; first | done | with_reducible rfl)
              try simp only [lay]
              refine' tk (i := 14) (v := _) rfl ?_ ?_
              rotate_left
              · (intro W hW; (try dsimp only at hW); obtain ⟨hW1, hW2, hW3⟩ := hW; go_simp; first | done | with_reducible rfl)
              try simp only [lay]
              refine' tk (i := 15) (v := _) rfl ?_ ?_
              rotate_left
              · (intro W hW; (try dsimp only at hW); obtain ⟨hW1, hW2, hW3⟩ := hW; go_simp; first | done | with_reducible rfl)
              try simp only [lay]
              refine' tk (i := 16) (v := _) rfl ?_ ?_
              rotate_left
              · (intro W hW; (try dsimp only at hW); obtain ⟨hW1, hW2, hW3⟩ := hW; go_simp; first | done | with_reducible rfl)
              try simp only [lay]
              refine' tk (i := 17) (v := _) rfl ?_ ?_
              rotate_left
              · (intro W hW; (try dsimp only at hW); obtain ⟨hW1, hW2, hW3⟩ := hW; go_simp; first | done | with_reducible rfl)
              try simp only [lay]
              refine' tk (i := 18) (v := _) rfl ?_ ?_
              rotate_left
              · (intro W hW; (try dsimp only at hW); obtain ⟨hW1, hW2, hW3⟩ := hW; go_simp; first | done | with_reducible rfl)
              try simp only [lay]
              refine' tk (i := 19) (v := _) rfl ?_ ?_
              rotate_left
              · (intro W hW; (try dsimp only at hW); obtain ⟨hW1, hW2, hW3⟩ := hW; go_simp; first | done | with_reducible rfl)
              try simp only [lay]
              refine' tk (i := 20) (v := _) rfl ?_ ?_
              rotate_left
              · (intro W hW; (try dsimp only at hW); obtain ⟨hW1, hW2, hW3⟩ := hW; go_simp; first | done | with_reducible rfl)
              try simp only [lay]
              refine' tk (i := 21) (v := _) rfl ?_ ?_
              rotate_left
              · (intro W hW; (try dsimp only at hW); obtain ⟨hW1, hW2, hW3⟩ := hW; go_simp; first | done | with_reducible rfl)
              try simp only [lay]
              refine' tk (i := 22) (v := _) rfl ?_ ?_
              rotate_left
              · (intro W hW; (try dsimp only at hW); obtain ⟨hW1, hW2, hW3⟩ := hW; go_simp; first | done | with_reducible rfl)
              try simp only [lay]
              refine' tk (i := 23) (v := _) rfl ?_ ?_
              rotate_left
              · (intro W hW; (try dsimp only at hW); obtain ⟨hW1, hW2, hW3⟩ := hW; go_simp; first | done | with_reducible rfl)
              try simp only [lay]
              refine' tk (i := 24) (v := _) rfl ?_ ?_
              rotate_left
              · (intro W hW; (try dsimp only at hW); obtain ⟨hW1, hW2, hW3⟩ := hW; go_simp; first | done | with_reducible rfl)
              try simp only [lay]
              refine' tk (i := 25) (v := _) rfl ?_ ?_
              rotate_left
              · (intro W hW; (try dsimp only at hW); obtain ⟨hW1, hW2, hW3⟩ := hW; go_simp; first | done | with_reducible rfl)
              try simp only [lay]
              refine' tk (i := 26) (v := _) rfl ?_ ?_
              rotate_left
              · (intro W hW; (try dsimp only at hW); obtain ⟨hW1, hW2, hW3⟩ := hW; go_simp; first | done | with_reducible rfl)
              try simp only [lay]
              refine' tk (i := 27) (v := _) rfl ?_ ?_
              rotate_left
              · (intro W hW; (try dsimp only at hW); obtain ⟨hW1, hW2, hW3⟩ := hW; go_simp; first | done | with_reducible rfl)
              try simp only [lay]
              refine' tk (i := 28) (v := _) rfl ?_ ?_
              rotate_left
              · (intro W hW; (try dsimp only at hW); obtain ⟨hW1, hW2, hW3⟩ := hW; go_simp; first | done | with_reducible rfl)
              try simp only [lay]
              refine' tk (i := 29) (v := _) rfl ?_ ?_
              rotate_left
              · (intro W hW; (try dsimp only at hW); obtain ⟨hW1, hW2, hW3⟩ := hW; go_simp; first | done | with_reducible rfl)
              try simp only [lay]
              refine' tk (i := 30) (v := _) rfl ?_ ?_
              rotate_left
              · (intro W hW; (try dsimp only at hW); obtain ⟨hW1, hW2, hW3⟩ := hW; go_simp; first | done | with_reducible rfl)
              try simp only [lay]
              refine' tk (i := 31) (v := _) rfl ?_ ?_
              rotate_left
              · (intro W hW; (try dsimp only at hW); obtain ⟨hW1, hW2, hW3⟩ := hW; go_simp; first | done | with_reducible rfl)
              try simp only [lay]
              refine wpAnyH_done (by kernel_rfl) ?_ _
              go_wp2_with fail
              go_ret
              exact ⟨rfl, hbd⟩
    · obtain rfl : i = L := by omega
      obtain rfl : ans = true := by rw [HR.out, List.drop_eq_nil_of_le (by rw [HL.out]; exact Nat.le_refl _)]; rfl
      obtain ⟨k4, k0, k1, k2⟩ := HX.out wr hbr
      have hI : ¬ (i : Int) < (i : Int) := by omega
      obtain ⟨bo, vi, pv, pa, fr, tg⟩ := a
      simp only at k0 k1 k2 HMA
      clear hpre hlast HR hlen hc1 hc2
      go_wp2_with fail
      all_goals
        go_ret
        refine ⟨?_, hBR⟩
        refine congrArg (fun b => Ending.returned (Value.bool b)) ?_
        rw [HMA.out]
        simp only [Bool.true_and]
      all_goals grind
end Go.Proofs.YtghophbabbaleaaGreatDoor
namespace Go.Proofs.YtghophbabbaleaaGreatDoor
set_option maxRecDepth 20000
open Go.RowKit
def AcRightOk : Prop := ∀ (n : Int) (v : Value) (a : AcM) (w : World), (Lit.int .i64 n).wf = true → AcV w v a → a.fr.length ≤ 1000 → Kst 1 w →
  Calls Tryz.prog 62 #[.int .i64 n, v] w fun e w' => e = .returned (.bool (rightX n a)) ∧ Below w.heap.size w w'
end Go.Proofs.YtghophbabbaleaaGreatDoor
namespace Go.Proofs.YtghophbabbaleaaGreatDoor
set_option maxRecDepth 20000
open Go.RowKit
def viewB (i : Int) : Bool := decide (1 ≤ i ∧ i ≤ 1099511627776)
theorem acViewed_any (i : Int) (w : World) : Calls Tryz.prog 136 #[.int .i64 i] w fun e w' => e = .returned (.bool (viewB i)) ∧ w = w' := by
  by_cases h1 : 1 ≤ i
  · go_enter Tryz.func136, Tryz.ntmps136
    go_wp2
    go_ret
    exact ⟨ret_boolK (by unfold viewB; rw [Bool.eq_iff_iff]; simp; omega), rfl⟩
  · go_enter Tryz.func136, Tryz.ntmps136
    go_wp2
    go_ret
    exact ⟨ret_boolK (by unfold viewB; rw [eq_comm, decide_eq_false_iff_not]; omega), rfl⟩
theorem acnum_any (v : Value) (l : List UInt8) (n : Int) (w : World) (hv : Byt w v l) (h0 : 0 ≤ n) (h1 : n < 9223372036854775808) (hs : l.length ≤ 1099511627000) :
    Calls Tryz.prog 138 #[v, .int .i64 n] w fun e w' => ∃ x, e = .returned x ∧ Own w.heap.size w' x (l ++ dg n.toNat) ∧ Below w.heap.size w w' := by
  have hw : IntKind.u64.wrap n = n := wrap_u64 _ (by omega) (by omega)
  go_enter Tryz.func138, Tryz.ntmps138
  go_wp2_with fail
  refine (num_any v l n w hv h0 (by omega) hs).mono ?_
  rintro e w1 ⟨v1, rfl, ho1, hb1⟩
  go_wp2_with fail
  go_ret
  exact ⟨_, rfl, ho1, hb1⟩
def lastN : Int → List Int → Int
  | last, [] => last
  | _, s :: r => lastN s r
theorem lastN_snoc (s : Int) : ∀ (l : List Int) (last : Int), lastN last (l ++ [s]) = s
  | [], _ => rfl
  | x :: r, _ => lastN_snoc s r x
theorem risesI_snoc (top : Int) (s : Int) : ∀ (l : List Int) (last : Int), risesI top last (l ++ [s]) = (risesI top last l && (decide (lastN last l < s) && decide (s ≤ top)))
  | [], last => by
    show ((decide (last < s) && decide (s ≤ top)) && true) = (true && (decide (last < s) && decide (s ≤ top)))
    rw [Bool.and_true, Bool.true_and]
  | x :: r, last => by
    have := risesI_snoc top s r x
    simp only [List.cons_append, risesI, lastN, this, Bool.and_assoc]
    rfl
theorem risesI_pre (top : Int) (m : List Int) : ∀ (l : List Int) (last : Int), risesI top last (l ++ m) = true → risesI top last l = true
  | [], _, _ => rfl
  | x :: r, last, h => by
    simp only [List.cons_append, risesI, Bool.and_eq_true] at h ⊢
    exact ⟨h.1, risesI_pre top m r x h.2⟩
theorem lastN_ge (top : Int) : ∀ (l : List Int) (last : Int), risesI top last l = true → last ≤ lastN last l
  | [], _, _ => Int.le_refl _
  | x :: r, last, h => by
    simp only [risesI, Bool.and_eq_true, decide_eq_true_eq] at h
    have := lastN_ge top r x h.2
    show last ≤ lastN x r
    omega
theorem lastN_pos {top : Int} {l : List Int} (h : risesI top 0 l = true) : decide (0 < lastN 0 l) = decide (0 < l.length) := by
  cases l with
  | nil => rfl
  | cons x r =>
    simp only [risesI, Bool.and_eq_true, decide_eq_true_eq] at h
    have := lastN_ge top r x h.2
    have h1 : 0 < lastN 0 (x :: r) := by
      show 0 < lastN x r
      omega
    rw [decide_eq_true h1]
    exact (decide_eq_true (by simp)).symm
theorem risesN_more {l : List Int} {i : Nat} (h : i < l.length) (hr : risesI 21 0 (l.take i) = true) (h1 : ¬ l[i] ≤ lastN 0 (l.take i)) (h2 : nodeB l[i] = true) : risesI 21 0 (l.take (i + 1)) = true := by
  unfold nodeB at h2
  rw [decide_eq_true_eq] at h2
  rw [List.take_succ_eq_append_getElem h, risesI_snoc, hr, decide_eq_true (by omega), decide_eq_true (by omega)]
  rfl
theorem risesN_not {l : List Int} {i : Nat} (h : i < l.length) (hr : risesI 21 0 (l.take i) = true) (h1 : l[i] ≤ lastN 0 (l.take i) ∨ nodeB l[i] = false) : risesI 21 0 l = false := by
  cases hq : risesI 21 0 l with
  | false => rfl
  | true =>
    exfalso
    rw [← List.take_append_drop (i + 1) l] at hq
    have := risesI_pre _ _ _ _ hq
    rw [List.take_succ_eq_append_getElem h, risesI_snoc] at this
    simp only [Bool.and_eq_true, decide_eq_true_eq] at this
    have h0 := lastN_ge _ _ _ hr
    rcases h1 with h1 | h1
    · omega
    · unfold nodeB at h1
      rw [decide_eq_false_iff_not] at h1
      omega
set_option maxHeartbeats 1600000 in
theorem acRise_any (v : Value) (l : List Int) (w0 : World) (hv : Els icl 1 w0 v l) (hl : l.length ≤ 1000) :
    Calls Tryz.prog 137 #[v] w0 fun e w' => e = .returned (.bool (decide (0 < l.length) && risesI 21 0 l)) ∧ Below w0.heap.size w0 w' := by
  obtain ⟨A, c, rfl⟩ := hv.shape
  obtain ⟨n, HN⟩ : ∃ n : Nat, Hid (l.length = n) := ⟨_, hid rfl⟩
  rw [HN.out] at hv hl ⊢
  have HT := hid hv
  obtain ⟨ans, HAN⟩ : ∃ q : Bool, Hid ((decide (0 < n) && risesI 21 0 l) = q) := ⟨_, hid rfl⟩
  rw [HAN.out]
  clear hv
  go_enter Tryz.func137, Tryz.ntmps137
  go_wp2_with fail
  go_loopw [3, 8] (fun la si wr => ∃ i : Nat, i ≤ n ∧ si = .int .i64 i ∧ la = .int .i64 (lastN 0 (l.take i)) ∧ Hid (risesI 21 0 (l.take i) = true) ∧ Below w0.heap.size w0 wr) (fun _ si _ => n - (intOf si).toNat)
  case atStart => exact ⟨0, Nat.zero_le _, rfl, rfl, hid rfl, Below.refl _ _⟩
  case round =>
    obtain ⟨i, hi, rfl, rfl, HR, hbr⟩ := hrel
    by_cases hlt : i < n
    · have hil : i < l.length := by rw [HN.out]; exact hlt
      obtain ⟨b, o, rfl, hg, hcl⟩ := (HT.out.below hbr).at_.2.2.2 (by omega)
      have hI : (i : Int) < (n : Int) := by omega
      have l1 : wr.cell? ⟨b, o + i, none⟩ = some (.int .i64 l[i]) := by
        have := hcl i hil 0 _ rfl
        rwa [Nat.mul_one, Nat.add_zero] at this
      have HMORE : Hid (¬ l[i] ≤ lastN 0 (l.take i) → nodeB l[i] = true → risesI 21 0 (l.take (i + 1)) = true) := hid (risesN_more hil HR.out)
      have HNOT : Hid ((l[i] ≤ lastN 0 (l.take i) ∨ nodeB l[i] = false) → ans = false) := hid (fun h => by rw [← HAN.out, risesN_not hil HR.out h, Bool.and_false])
      have HLAST : Hid (lastN 0 (l.take (i + 1)) = l[i]) := hid (by rw [List.take_succ_eq_append_getElem hil, lastN_snoc])
      obtain ⟨bo, HBO⟩ : ∃ x : Int, Hid (l[i] = x) := ⟨_, hid rfl⟩
      obtain ⟨la, HLA⟩ : ∃ x : Int, Hid (lastN 0 (l.take i) = x) := ⟨_, hid rfl⟩
      rw [HBO.out] at HMORE HNOT HLAST l1
      rw [HLA.out] at HMORE HNOT ⊢
      clear hcl hg
      by_cases h1 : bo ≤ la
      · obtain rfl : ans = false := HNOT.out (.inl h1)
        go_wp2_with fail
        go_ret
        exact ⟨rfl, hbr⟩
      · obtain ⟨nb, HNB⟩ : ∃ q : Bool, Hid (nodeB bo = q) := ⟨_, hid rfl⟩
        have HCN := hid (fun W => node_any bo W)
        rw [HNB.out] at HCN HMORE HNOT
        have HH1 := hid h1
        go_wp2_with fail
        refine (HCN.out wr).mono ?_
        rintro e w2 ⟨rfl, rfl⟩
        cases nb with
        | false =>
          obtain rfl : ans = false := HNOT.out (.inr rfl)
          go_wp2_with fail
          go_ret
          exact ⟨rfl, hbr⟩
        | true =>
          have HM2 := hid (HMORE.out HH1.out rfl)
          clear HMORE HNOT
          go_wp2_with fail
          go_roundw
          case rel => exact ⟨i + 1, by omega, by go_num, by rw [HLAST.out], hid HM2.out, hbr⟩
          case measure => simp [intOf]; omega
    · obtain rfl : i = n := by omega
      have htk : l.take i = l := List.take_of_length_le (by rw [HN.out]; exact Nat.le_refl _)
      have HANS : Hid (ans = decide (0 < lastN 0 (l.take i))) := hid (by
        have h := HR.out
        rw [htk] at h ⊢
        rw [← HAN.out, h, Bool.and_true, lastN_pos h, HN.out])
      obtain ⟨la, HLA⟩ : ∃ x : Int, Hid (lastN 0 (l.take i) = x) := ⟨_, hid rfl⟩
      rw [HLA.out] at HANS ⊢
      clear htk
      by_cases h1 : 0 < la
      · obtain rfl : ans = true := by rw [HANS.out, decide_eq_true h1]
        go_wp2_with fail
        go_ret
        exact ⟨rfl, hbr⟩
      · obtain rfl : ans = false := by rw [HANS.out, decide_eq_false h1]
        go_wp2_with fail
        go_ret
        exact ⟨rfl, hbr⟩
end Go.Proofs.YtghophbabbaleaaGreatDoor
namespace Go.Proofs.YtghophbabbaleaaGreatDoor
set_option maxRecDepth 20000
open Go.RowKit
set_option maxHeartbeats 1600000 in
theorem acFits_any (v : Value) (a : AcM) (w : World) (hv : AcV w v a) (hl : a.fr.length ≤ 1000) :
    Calls Tryz.prog 95 #[v] w fun e w' => e = .returned (.bool (mayX a)) ∧ Below w.heap.size w w' := by
  obtain ⟨s, rfl, ho, ht⟩ := hv
  have hb0 : Below w.heap.size w (w.alloc (.cells (axc a s) 50)) := (Below.refl _ _).alloc (Nat.le_refl _) _
  have hX := BoxX.new w a s
  obtain ⟨A, k, rfl⟩ := ht.shape
  have HT := hid (fun W (h : Below w.heap.size w W) => ht.below h)
  have HLL := hid hl
  obtain ⟨L, HL⟩ : ∃ n : Nat, Hid (a.fr.length = n) := ⟨_, hid rfl⟩
  rw [HL.out] at hX hb0 HT ⊢
  obtain ⟨ans, HAN⟩ : ∃ q : Bool, Hid (mayX a = q) := ⟨_, hid rfl⟩
  obtain ⟨nb, HNB⟩ : ∃ q : Bool, Hid (nodeB a.bo = q) := ⟨_, hid rfl⟩
  obtain ⟨vb, HVB⟩ : ∃ q : Bool, Hid (viewB a.vi = q) := ⟨_, hid rfl⟩
  obtain ⟨r, HR⟩ : ∃ q : Bool, Hid ((decide (0 < a.fr.length) && risesI 21 0 a.fr) = q) := ⟨_, hid rfl⟩
  have HMA : Hid (ans = (nb && (vb && (decide (0 ≤ a.pv ∧ a.pv < a.vi) && r)))) := hid (by
    rw [← HAN.out, ← HNB.out, ← HVB.out, ← HR.out]
    unfold mayX nodeB viewB
    rw [Bool.eq_iff_iff]
    simp only [Bool.and_eq_true, decide_eq_true_eq]
    constructor
    · rintro ⟨h, h1, h2, h3, h4, h5, h6, h7⟩
      exact ⟨⟨h1, h2⟩, ⟨h3, h4⟩, ⟨h5, h6⟩, by omega, h⟩
    · rintro ⟨⟨h1, h2⟩, ⟨h3, h4⟩, ⟨h5, h6⟩, h7, h⟩
      exact ⟨h, h1, h2, h3, h4, h5, h6, by omega⟩)
  rw [HAN.out]
  have HCN : Hid (∀ W, Calls Tryz.prog 23 #[.int .i64 a.bo] W fun e w' => e = .returned (.bool nb) ∧ W = w') := hid (fun W => by have := node_any a.bo W; rw [HNB.out] at this; exact this)
  have HCV : Hid (∀ W, Calls Tryz.prog 136 #[.int .i64 a.vi] W fun e w' => e = .returned (.bool vb) ∧ W = w') := hid (fun W => by have := acViewed_any a.vi W; rw [HVB.out] at this; exact this)
  have HRI : Hid (∀ W, Below w.heap.size w W → Calls Tryz.prog 137 #[.slice A L k] W fun e w' => e = .returned (.bool r) ∧ Below W.heap.size W w') := hid (fun W h => by
    have := acRise_any (.slice A L k) a.fr W (HT.out W h) HLL.out
    rw [HR.out] at this
    exact this)
  have HO := hid ho
  clear ho ht hl
  go_enter Tryz.func95, Tryz.ntmps95
  go_upto_region 1 with (fail)
  generalize (w.alloc (.cells (axc a (.slice A L k)) 50)) = w0 at *
  obtain ⟨k0, k1, k2⟩ := hX.ints
  have k3 := hX.fr HO.out
  clear hX
  obtain ⟨bo, HBO⟩ : ∃ x : Int, Hid (a.bo = x) := ⟨_, hid rfl⟩
  obtain ⟨vi, HVI⟩ : ∃ x : Int, Hid (a.vi = x) := ⟨_, hid rfl⟩
  obtain ⟨pv, HPV⟩ : ∃ x : Int, Hid (a.pv = x) := ⟨_, hid rfl⟩
  rw [HBO.out] at k0 HCN
  rw [HVI.out] at k1 HCV HMA
  rw [HPV.out] at k2 HMA
  go_wp2_with fail
  refine (HCN.out w0).mono ?_
  rintro e w1 ⟨rfl, rfl⟩
  cases nb with
  | false =>
    obtain rfl : ans = false := HMA.out
    go_wp2_with fail
    go_ret
    exact ⟨rfl, hb0⟩
  | true =>
    go_wp2_with fail
    refine (HCV.out w0).mono ?_
    rintro e w1 ⟨rfl, rfl⟩
    cases vb with
    | false =>
      obtain rfl : ans = false := HMA.out
      go_wp2_with fail
      go_ret
      exact ⟨rfl, hb0⟩
    | true =>
      by_cases h1 : pv < 0
      · obtain rfl : ans = false := by rw [HMA.out, decide_eq_false (by omega)]; rfl
        go_wp2_with fail
        go_ret
        exact ⟨rfl, hb0⟩
      by_cases h2 : vi ≤ pv
      · obtain rfl : ans = false := by rw [HMA.out, decide_eq_false (by omega)]; rfl
        go_wp2_with fail
        go_ret
        exact ⟨rfl, hb0⟩
      obtain rfl : ans = r := by rw [HMA.out, decide_eq_true (by omega)]; rfl
      go_wp2_with fail
      refine (HRI.out w0 hb0).mono ?_
      rintro e w4 ⟨rfl, hb4⟩
      have hB4 := hb0.trans (hb4.mono hb0.size)
      clear k0 k1 k2 k3
      go_wp2_with fail
      go_ret
      exact ⟨rfl, hB4⟩
end Go.Proofs.YtghophbabbaleaaGreatDoor
