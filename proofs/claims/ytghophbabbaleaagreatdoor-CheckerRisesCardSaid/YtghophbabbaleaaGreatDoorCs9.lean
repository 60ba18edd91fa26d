/-
  AtCodeRight AtArg AtAwake AtCodeAlike SeEq SeMay SeCodeMay SeCodeTagged SeRd SeAwake SeArg: what each of them says stands at its head.
-/
import Derived.Test.YtghophbabbaleaaGreatDoorCs8
namespace Go.Proofs.YtghophbabbaleaaGreatDoor
set_option maxRecDepth 20000
open Go.RowKit
attribute [local go_sem ↓] exec_load_att exec_load_hash
theorem check_hash (i : Int) (d : UInt8) (t : List UInt8) (ht : t.length = 32) (v0 : Value) (l0 : List UInt8) (gp c : Nat) (w : World) (hg : gp < w.heap.size) (h0 : w.cell? ⟨gp, 0, none⟩ = some v0) (b0 : Byt w v0 l0) (hl0 : l0.length ≤ 1000000) (hK : Kst 1 w) :
    Calls Tryz.prog 84 #[.int .i64 i, .int .u8 (d.toNat : Int), .agg (hcells t), .slice (some ⟨gp, 0, none⟩) 1 c] w fun e w' => e = .returned (.bool (nodeB i && decide (t = hl 32 (tagF i d l0)))) ∧ Below w.heap.size w w' := by
  have e : ([l0] : List (List UInt8)).flatten = l0 := by simp
  have h := check_any i d (fun j => t.getD j 0) [l0] (fun _ => v0) gp 1 c w rfl hg (fun j hj => by
    obtain rfl : j = 0 := by omega
    exact h0) (fun j hj => by
    have hj2 : j < 1 := hj
    obtain rfl : j = 0 := by omega
    exact b0) (by rw [e]; omega) (by omega) hK
  have et : hl 32 (fun j => t.getD j 0) = t := by
    apply List.ext_getElem
    · rw [hl_length, ht]
    · intro j h1 h2
      rw [hl_get]
      simp [List.getD, h2]
  rw [e, fcells_hl, et] at h
  unfold checkB sameB at h
  rw [et] at h
  exact h
set_option maxHeartbeats 3200000 in
theorem atRight_ok : AtRightOk := by
  intro a w ho hK
  obtain ⟨m, HM⟩ : ∃ m : Bool, Hid (mayA a = m) := ⟨_, hid rfl⟩
  obtain ⟨q, HQ⟩ : ∃ q : Bool, Hid (decide (a.tg = tagA a) = q) := ⟨_, hid rfl⟩
  have HR : Hid (rightA a = (m && q)) := hid (by unfold rightA; rw [HM.out, HQ.out])
  have HMA : Hid (∀ W, Calls Tryz.prog 148 #[.agg (atc a)] W fun e w' => e = .returned (.int .i64 (if m = true then 0 else 1)) ∧ Below W.heap.size W w') := hid (fun W => by
    have := atCheck_ok a W ho
    rw [HM.out] at this
    exact this)
  have HTD : Hid (m = true → ∀ W, Calls Tryz.prog 150 #[.agg (atc a)] W fun e w' => ∃ x, e = .returned x ∧ Own W.heap.size w' x (taggedA a) ∧ Below W.heap.size W w') := hid (fun h W => attagged_any a W ho (HM.out.trans h))
  obtain ⟨L, HL⟩ : ∃ l : List UInt8, Hid (taggedA a = l) := ⟨_, hid rfl⟩
  have HKC : Hid (m = true → ∀ v gp c W, Below w.heap.size w W → gp < W.heap.size → W.cell? ⟨gp, 0, none⟩ = some v → Byt W v L → Calls Tryz.prog 84 #[.int .i64 a.bo, .int .u8 1, .agg (hcells a.tg), .slice (some ⟨gp, 0, none⟩) 1 c] W fun e w' => e = .returned (.bool q) ∧ Below W.heap.size W w') := hid (fun h v gp c W hb h1 h2 h3 => by
    have hm : mayA a = true := HM.out.trans h
    have hlen := taggedA_len ho hm
    have hn : nodeB a.bo = true := by
      obtain ⟨j1, j2, _⟩ := mayA_iff hm
      unfold nodeB
      exact decide_eq_true ⟨j1, j2⟩
    have := check_hash a.bo 1 a.tg ho.tg v L gp c W h1 h2 h3 (by rw [← HL.out]; omega) (hK.below hb)
    rw [hn, Bool.true_and, ← HL.out] at this
    rw [← HQ.out]
    exact this)
  have hb0 : Below w.heap.size w (w.alloc (.cells (atc a) 52)) := (Below.refl _ _).alloc (Nat.le_refl _) _
  have hA := BoxA.new w a
  obtain ⟨C, HC⟩ : ∃ C : Array Value, Hid (atc a = C) := ⟨_, hid rfl⟩
  obtain ⟨G, HG⟩ : ∃ C : Array Value, Hid (hcells a.tg = C) := ⟨_, hid rfl⟩
  rw [HL.out, HC.out] at HTD
  rw [HC.out] at HMA hb0 hA
  rw [HG.out] at HKC
  rw [HR.out, HC.out]
  have HX : Hid (∀ W : World, BoxA W w.heap.size a → W.cell? ⟨w.heap.size, 0, none⟩ = some (.int .i64 a.bo) ∧ loadAtt (.pointer (some ⟨w.heap.size, 0, none⟩)) W = .ok (.value (.agg C)) W ∧ loadH (.pointer (some ⟨w.heap.size, 69, none⟩)) W = .ok (.value (.agg G)) W) := hid (fun W h => by
    have h1 := loadAtt_eq h ho
    have h2 := loadH_mid (h.tag ho) ho.tg
    rw [HC.out] at h1
    rw [HG.out] at h2
    exact ⟨h.cells.1, h1, h2⟩)
  clear hK ho HL HQ HR
  go_enter Tryz.func108, Tryz.ntmps108
  go_upto_region 1 with (fail)
  generalize (w.alloc (.cells C 52)) = w0 at *
  have HXW := hid (fun W (h : Below w0.heap.size w0 W) => HX.out W (hA.keep h))
  have hbd : Below w0.heap.size w0 w0.drew := (Below.refl _ _).drew
  clear hA
  refine wp_region_held_drew (S := fun W => W.cell? ⟨w.heap.size, 0, none⟩ = some (.int .i64 a.bo) ∧ loadAtt (.pointer (some ⟨w.heap.size, 0, none⟩)) W = .ok (.value (.agg C)) W ∧ loadH (.pointer (some ⟨w.heap.size, 69, none⟩)) W = .ok (.value (.agg G)) W) (by kernel_rfl) (HXW.out _ hbd) (fun hHeld => ?_)
  refine' tk (i := 0) (v := _) rfl (fun W hW => hW.2.1) ?_
  try simp only [lay]
  refine call_on (i := 1) rfl (by kernel_rfl) (by rfl) (fun K hK => ?_)
  go_simp
  refine (HMA.out w0.drew).mono ?_
  rintro e w2 ⟨rfl, hb2'⟩
  have hb2 := hbd.trans hb2'
  refine hK.out _ _ (HXW.out _ hb2) (fun hHeld => ?_)
  clear hK K
  try simp only [lay]
  cases m with
  | false =>
    simp only [Bool.false_eq_true, if_false]
    refine' tk (i := 2) (v := _) rfl ?_ ?_
    rotate_left
    · (intro W hW; (try dsimp only at hW); go_simp; first | done | with_reducible rfl)
    try simp only [lay]
    refine' tk (i := 3) (v := _) rfl ?_ ?_
    rotate_left
    · (intro W hW; (try dsimp only at hW); go_simp; first | done | with_reducible rfl)
    try simp only [lay]
    refine tf (i := 4) rfl ?_
    try simp only [lay]
    refine tf (i := 5) rfl ?_
    try simp only [lay]
    refine tf (i := 6) rfl ?_
    try simp only [lay]
    refine tf (i := 7) rfl ?_
    try simp only [lay]
    refine tf (i := 8) rfl ?_
    try simp only [lay]
    refine tf (i := 9) rfl ?_
    try simp only [lay]
    refine tf (i := 10) rfl ?_
    try simp only [lay]
    refine tf (i := 11) rfl ?_
    try simp only [lay]
    refine' tk (i := 12) (v := _) rfl ?_ ?_
    rotate_left
    · (intro W hW; (try dsimp only at hW); go_simp; first | done | with_reducible rfl)
    try simp only [lay]
    refine' tk (i := 13) (v := _) rfl ?_ ?_
    rotate_left
    · (intro W hW; (try dsimp only at hW); go_simp; first | done | with_reducible rfl)
    try simp only [lay]
    refine wpAnyH_done (by kernel_rfl) ?_ _
    go_wp2_with fail
    go_ret
    exact ⟨rfl, hb0.trans (hb2.mono hb0.size)⟩
  | true =>
    simp only [if_true]
    refine' tk (i := 2) (v := _) rfl ?_ ?_
    rotate_left
    · (intro W hW; (try dsimp only at hW); go_simp; first | done | with_reducible rfl)
    try simp only [lay]
    refine' tk (i := 3) (v := _) rfl ?_ ?_
    rotate_left
    · (intro W hW; (try dsimp only at hW); go_simp; first | done | with_reducible rfl)
    try simp only [lay]
    refine' tk (i := 4) (v := _) rfl ?_ ?_
    rotate_left
    · (intro W hW; (try dsimp only at hW); go_simp; first | done | with_reducible rfl)
    try simp only [lay]
    refine' tk (i := 5) (v := _) rfl ?_ ?_
    rotate_left
    · (intro W hW; (try dsimp only at hW); obtain ⟨hW1, _⟩ := hW; go_simp; first | done | with_reducible rfl)
    try simp only [lay]
    refine' tk (i := 6) (v := _) rfl ?_ ?_
    rotate_left
    · (intro W hW; (try dsimp only at hW); go_simp; first | done | with_reducible rfl)
    try simp only [lay]
    refine' tk (i := 7) (v := _) rfl (fun W hW => hW.2.2) ?_
    try simp only [lay]
    refine' tk (i := 8) (v := _) rfl (fun W hW => hW.2.1) ?_
    try simp only [lay]
    refine call_on (i := 9) rfl (by kernel_rfl) (by rfl) (fun K hK => ?_)
    go_simp
    refine (HTD.out rfl w2).mono ?_
    rintro e w3 ⟨v3, rfl, ho3, hb3'⟩
    have hb3 := hb2.trans (hb3'.mono hb2.size)
    have hv3 := ho3.byt
    obtain ⟨A3, c3, rfl⟩ := hv3.shape
    refine hK.out _ _ (HXW.out _ hb3) (fun hHeld => ?_)
    clear hK K
    try simp only [lay]
    have hb4 : Below w0.heap.size w0 (w3.alloc (.cells #[.slice A3 L.length c3] 29)) := hb3.alloc hb3.size _
    refine call_on (i := 10) rfl (by kernel_rfl) (by rfl) (fun K hK => ?_)
    go_simp
    refine hK.out _ _ (HXW.out _ hb4) (fun hHeld => ?_)
    clear hK K
    try simp only [lay]
    refine call_on (i := 11) rfl (by kernel_rfl) (by rfl) (fun K hK => ?_)
    go_simp
    refine (HKC.out rfl (.slice A3 L.length c3) w3.heap.size 1 (w3.alloc (.cells #[.slice A3 L.length c3] 29)) (hb0.trans (hb4.mono hb0.size)) (by simp) (by simp) (hv3.alloc _)).mono ?_
    rintro e w5 ⟨rfl, hb5'⟩
    have hb5 := hb4.trans (hb5'.mono hb4.size)
    refine hK.out _ _ (HXW.out _ hb5) (fun hHeld => ?_)
    clear hK K
    try simp only [lay]
    refine' tk (i := 12) (v := _) rfl ?_ ?_
    rotate_left
    · (intro W hW; (try dsimp only at hW); go_simp; first | done | with_reducible rfl)
    try simp only [lay]
    refine' tk (i := 13) (v := _) rfl ?_ ?_
    rotate_left
    · (intro W hW; (try dsimp only at hW); go_simp; first | done | with_reducible rfl)
    try simp only [lay]
    refine wpAnyH_done (by kernel_rfl) ?_ _
    go_wp2_with fail
    go_ret
    exact ⟨rfl, hb0.trans (hb5.mono hb0.size)⟩
end Go.Proofs.YtghophbabbaleaaGreatDoor
namespace Go.Proofs.YtghophbabbaleaaGreatDoor
set_option maxRecDepth 20000
open Go.ChangeShapes Go.WideShapes Go.ChangeAt Go.RowKit Go.Deep
theorem drop_part {α : Type} {cs l : List α} {o k : Nat} (h : (cs.drop o).take k = l) : cs.drop o = l ++ cs.drop (o + k) := by
  conv => lhs; rw [← List.take_append_drop k (cs.drop o), List.drop_drop, h]
section
variable {H : Type} {enc : TypeId × Value → H} {w : World} {base : Nat} {spare : Nat → Bool} {held : Bool} {fuel : Nat} {cs : List Value} {x : DataW H × List MemPlace}
theorem fields_at : ∃ f0 f1 f2 f3 f4 f5 f6 f7 : Field, Tryz.prog.underlying 52 = some (.struct #[f0, f1, f2, f3, f4, f5, f6, f7]) ∧ (f0.type, f0.offset) = (3, 0) ∧ (f1.type, f1.offset) = (3, 1) ∧ (f2.type, f2.offset) = (3, 2)
    ∧ (f3.type, f3.offset) = (3, 3) ∧ (f4.type, f4.offset) = (38, 4) ∧ (f5.type, f5.offset) = (3, 36) ∧ (f6.type, f6.offset) = (38, 37) ∧ (f7.type, f7.offset) = (38, 69) :=
  ⟨_, _, _, _, _, _, _, _, Tryz.underlying52, rfl, rfl, rfl, rfl, rfl, rfl, rfl, rfl⟩
theorem trod_at (h : DataW.trod enc Tryz.prog w base spare held fuel 52 cs = some x) : ∃ a : AtM, a.Ok ∧ cs = atl a := by
  obtain ⟨f0, f1, f2, f3, f4, f5, f6, f7, hu, e0, e1, e2, e3, e4, e5, e6, e7⟩ := fields_at
  injection e0 with t0 o0
  injection e1 with t1 o1
  injection e2 with t2 o2
  injection e3 with t3 o3
  injection e4 with t4 o4
  injection e5 with t5 o5
  injection e6 with t6 o6
  injection e7 with t7 o7
  obtain ⟨xs, m, _, _, hlen, hxl, hf⟩ := DataW.trod_struct hu h
  have hc : Tryz.prog.cellsOf 52 = 101 := by kernel_rfl
  have hci : Tryz.prog.cellsOf 3 = 1 := by kernel_rfl
  have hch : Tryz.prog.cellsOf 38 = 32 := by kernel_rfl
  rw [hc] at hlen
  have hx : xs.length = 8 := hxl
  have g0 := hf 0 f0 rfl
  have g1 := hf 1 f1 rfl
  have g2 := hf 2 f2 rfl
  have g3 := hf 3 f3 rfl
  have g4 := hf 4 f4 rfl
  have g5 := hf 5 f5 rfl
  have g6 := hf 6 f6 rfl
  have g7 := hf 7 f7 rfl
  rw [t0, o0, hci, List.getElem?_eq_getElem (by omega)] at g0
  rw [t1, o1, hci, List.getElem?_eq_getElem (by omega)] at g1
  rw [t2, o2, hci, List.getElem?_eq_getElem (by omega)] at g2
  rw [t3, o3, hci, List.getElem?_eq_getElem (by omega)] at g3
  rw [t4, o4, hch, List.getElem?_eq_getElem (by omega)] at g4
  rw [t5, o5, hci, List.getElem?_eq_getElem (by omega)] at g5
  rw [t6, o6, hch, List.getElem?_eq_getElem (by omega)] at g6
  rw [t7, o7, hch, List.getElem?_eq_getElem (by omega)] at g7
  obtain ⟨n0, c0, _, _⟩ := DataW.trod_int Tryz.underlying3 g0
  obtain ⟨n1, c1, _, _⟩ := DataW.trod_int Tryz.underlying3 g1
  obtain ⟨n2, c2, _, _⟩ := DataW.trod_int Tryz.underlying3 g2
  obtain ⟨n3, c3, _, _⟩ := DataW.trod_int Tryz.underlying3 g3
  obtain ⟨ha, h4, c4⟩ := trod_hash g4
  obtain ⟨n5, c5, _, _⟩ := DataW.trod_int Tryz.underlying3 g5
  obtain ⟨pa, h6, c6⟩ := trod_hash g6
  obtain ⟨tg, h7, c7⟩ := trod_hash g7
  refine ⟨⟨n0, n1, n2, n3, ha, n5, pa, tg⟩, ⟨h4, h6, h7⟩, ?_⟩
  have e : cs = cs.drop 0 := rfl
  rw [e, drop_part c0, drop_part c1, drop_part c2, drop_part c3, drop_part c4, drop_part c5, drop_part c6, drop_part c7, List.drop_eq_nil_of_le (by omega)]
  unfold atl
  simp only [List.append_nil, List.cons_append, List.nil_append]
end
end Go.Proofs.YtghophbabbaleaaGreatDoor
namespace Go.Proofs.YtghophbabbaleaaGreatDoor
set_option maxRecDepth 20000
open Go.RowKit
theorem setAtt_alloc (w : World) (T : TypeId) (C0 C : Array Value) : setAtt (w.alloc (.cells C0 T)) w.heap.size C = w.alloc (.cells C T) := by
  have hm : ∀ (a : Array Obj) (x : Obj) (f : Obj → Obj), (a.push x).modify a.size f = a.push (f x) := by
    intro a x f
    apply Array.ext_getElem?
    intro k
    rw [Array.getElem?_modify]
    by_cases h : a.size = k
    · subst h
      simp
    · rw [if_neg h, Array.getElem?_push, Array.getElem?_push]
      rw [if_neg (fun e => h e.symm), if_neg (fun e => h e.symm)]
  unfold setAtt World.setRow World.alloc
  simp only [hm]
theorem att_var (w : World) {Z S : Array Value} (hZ : Z.size = 101) (hS : S.size = 101) (h1 : S.all (·.oneCell') = true) :
    storeAtt (.pointer (some ⟨w.heap.size, 0, none⟩)) (.agg S) (w.alloc (.cells Z 52)) = .ok .skip (w.alloc (.cells S 52)) := by
  rw [storeAtt_eq (heap_alloc_new w _) hZ hS h1, setAtt_alloc]
attribute [local go_sem ↓] exec_load_att exec_alloc_att exec_store_att
end Go.Proofs.YtghophbabbaleaaGreatDoor
namespace Go.Proofs.YtghophbabbaleaaGreatDoor
set_option maxRecDepth 20000
open Go.RowKit
noncomputable def eqAtt (u v : Value) (w : World) : Result Next := Sem.run Tryz.prog (execOp (fun x => match x with
  | .tmp 0 => u
  | _ => v) { dst := none, op := .binOp .eql 52 (.tmp 0) (.tmp 1) 52, type := 0, pos := "", after := #[], guard := none }) w
theorem exec_eq_att (r : Operand → Value) (i j : Tmp) (dst : Option Tmp) (ty : TypeId) (pos : String) (after : Array Edge) (guard : Option (Nat × Bool)) (w : World) :
    Sem.run Tryz.prog (execOp r { dst := dst, op := .binOp .eql 52 (.tmp i) (.tmp j) 52, type := ty, pos := pos, after := after, guard := guard }) w = eqAtt (r (.tmp i)) (r (.tmp j)) w := rfl
theorem eqAtt_eq {C D : Array Value} {q : Bool} (heq : ∀ W, (Op.equalIn 10000 52 (.agg C) (.agg D)).run Tryz.prog W = .ok q W) (w : World) : eqAtt (.agg C) (.agg D) w = .ok (.value (.bool q)) w := by
  unfold eqAtt
  go_simp
attribute [local go_sem ↓] exec_load_att exec_load_hash exec_eq_att
end Go.Proofs.YtghophbabbaleaaGreatDoor
namespace Go.Proofs.YtghophbabbaleaaGreatDoor
set_option maxRecDepth 20000
open Go.RowKit
theorem fields_se : (Tryz.prog.fieldsOf 40).toList.map (fun f => (f.type, f.offset, f.name == "_")) =
    [(3, 0, false), (3, 1, false), (3, 2, false), (38, 3, false)] := by kernel_rfl
set_option maxHeartbeats 1600000 in
theorem eq_se (a b : SeM) (ho : a.Ok) (hp : b.Ok) (w : World) : (Op.equalIn 10000 40 (.agg (sec a)) (.agg (sec b))).run Tryz.prog w = .ok (decide (a = b)) w := by
  have K : ∀ c : SeM, c.Ok → (sec c)[0]? = some (.int .i64 c.vi) ∧ (sec c)[1]? = some (.int .i64 c.ph) ∧ (sec c)[2]? = some (.int .i64 c.pv) ∧ ((sec c).toList.drop 3).take 32 = bcells c.pa := by
    intro c hc
    refine ⟨rfl, rfl, rfl, ?_⟩
    exact drop_at (pre := [.int .i64 c.vi, .int .i64 c.ph, .int .i64 c.pv]) (m := bcells c.pa) (post := []) (by show sel c = _; rw [List.append_nil]; rfl) rfl (by rw [bcells_length]; exact hc)
  obtain ⟨a0, a1, a2, a3⟩ := K a ho
  obtain ⟨b0, b1, b2, b3⟩ := K b hp
  have EI : ∀ x y : Int, (Op.equalIn 9999 3 (.int .i64 x) (.int .i64 y)).run Tryz.prog w = .ok (x == y) w := fun x y => run_equalIn_int (P := Tryz.prog) w 9998 3 .i64 .i64 x y under_att_int
  rw [run_equalIn_struct w 9999 _ _ _ under_se (by kernel_rfl), eqF_of, fields_se]
  rw [eqF_step (part_att_int a0) (part_att_int b0) (EI _ _), eqF_step (part_att_int a1) (part_att_int b1) (EI _ _), eqF_step (part_att_int a2) (part_att_int b2) (EI _ _), eqF_step (part_att_hash a3) (part_att_hash b3) (eq_hash_at 9997 _ _ ho hp w)]
  obtain ⟨p1, p2, p3, p4⟩ := a
  obtain ⟨q1, q2, q3, q4⟩ := b
  simp only [eqF, Sem.run_pure, SeM.mk.injEq, beq_iff_eq, decide_eq_true_eq]
  (repeat' split) <;> simp_all
noncomputable def eqSe (u v : Value) (w : World) : Result Next := Sem.run Tryz.prog (execOp (fun x => match x with
  | .tmp 0 => u
  | _ => v) { dst := none, op := .binOp .eql 40 (.tmp 0) (.tmp 1) 40, type := 0, pos := "", after := #[], guard := none }) w
theorem exec_eq_se (r : Operand → Value) (i j : Tmp) (dst : Option Tmp) (ty : TypeId) (pos : String) (after : Array Edge) (guard : Option (Nat × Bool)) (w : World) :
    Sem.run Tryz.prog (execOp r { dst := dst, op := .binOp .eql 40 (.tmp i) (.tmp j) 40, type := ty, pos := pos, after := after, guard := guard }) w = eqSe (r (.tmp i)) (r (.tmp j)) w := rfl
theorem eqSe_eq (a b : SeM) (ho : a.Ok) (hp : b.Ok) (w : World) : eqSe (.agg (sec a)) (.agg (sec b)) w = .ok (.value (.bool (decide (a = b)))) w := by
  have heq := fun W => eq_se a b ho hp W
  obtain ⟨q, HQ⟩ : ∃ q : Bool, Hid (decide (a = b) = q) := ⟨_, hid rfl⟩
  obtain ⟨C, HC⟩ : ∃ C : Array Value, Hid (sec a = C) := ⟨_, hid rfl⟩
  obtain ⟨D, HD⟩ : ∃ C : Array Value, Hid (sec b = C) := ⟨_, hid rfl⟩
  rw [HQ.out, HC.out, HD.out] at heq
  rw [HQ.out, HC.out, HD.out]
  unfold eqSe
  go_simp
end Go.Proofs.YtghophbabbaleaaGreatDoor
namespace Go.Proofs.YtghophbabbaleaaGreatDoor
set_option maxRecDepth 20000
open Go.RowKit
attribute [local go_sem ↓] exec_load_se exec_build_se exec_eq_se
set_option maxHeartbeats 3200000 in
theorem refMay13_any (s : SeM) (w : World) (ho : s.Ok) :
    Calls Tryz.prog 15 #[.agg (sec s)] w fun e w' => e = .returned (.bool (mayS s)) ∧ Below w.heap.size w w' := by
  have hb0 : Below w.heap.size w (w.alloc (.cells (sec s) 40)) := (Below.refl _ _).alloc (Nat.le_refl _) _
  have hA := BoxSe.new w s
  have heq : ∀ W, eqSe (.agg (sec s)) (.agg (sec seZ)) W = .ok (.value (.bool (decide (s = seZ)))) W := fun W => eqSe_eq s seZ ho seZ_ok W
  have hbz := buildSe_eq
  have hl0 := loadSe_eq hA ho
  obtain ⟨C, HC⟩ : ∃ C : Array Value, Hid (sec s = C) := ⟨_, hid rfl⟩
  obtain ⟨Z, HZ⟩ : ∃ C : Array Value, Hid (sec seZ = C) := ⟨_, hid rfl⟩
  obtain ⟨q, HQ⟩ : ∃ q : Bool, Hid (mayS s = q) := ⟨_, hid rfl⟩
  obtain ⟨d, HD⟩ : ∃ q : Bool, Hid (decide (s = seZ) = q) := ⟨_, hid rfl⟩
  rw [HC.out] at hb0 hA hl0 heq ⊢
  rw [HZ.out] at hbz heq
  rw [HD.out] at heq
  rw [HQ.out]
  go_enter Tryz.func15, Tryz.ntmps15
  go_upto_region 1 with (fail)
  generalize (w.alloc (.cells C 40)) = w0 at *
  obtain ⟨k0, k1, k2⟩ := hA.cells
  have HM : Hid (q = if s.vi = 0 then d else if s.vi < 0 ∨ 1099511627776 < s.vi ∨ s.ph < 1 ∨ 3 < s.ph ∨ s.pv < 0 then false else decide (s.pv < s.vi) || (decide (s.pv = s.vi) && decide (s.ph = 3))) := hid (by rw [← HQ.out, ← HD.out]; rfl)
  clear hA HC HZ HQ HD ho
  obtain ⟨vi, ph, pv, pa⟩ := s
  simp only at k0 k1 k2 HM
  go_wp2_with fail
  all_goals
    go_ret
    refine ⟨?_, hb0⟩
    refine congrArg (fun b => Ending.returned (Value.bool b)) ?_
    rw [HM.out]
  all_goals grind
set_option maxHeartbeats 3200000 in
theorem refLess13_any (a b : SeM) (w : World) :
    Calls Tryz.prog 16 #[.agg (sec a), .agg (sec b)] w fun e w' => e = .returned (.bool (lessS a b)) ∧ Below w.heap.size w w' := by
  have hb0 : Below w.heap.size w ((w.alloc (.cells (sec a) 40)).alloc (.cells (sec b) 40)) := ((Below.refl _ _).alloc (Nat.le_refl _) _).alloc (by simp) _
  have hA : BoxSe ((w.alloc (.cells (sec a) 40)).alloc (.cells (sec b) 40)) w.heap.size a := heap1 w _ _
  have hB : BoxSe ((w.alloc (.cells (sec a) 40)).alloc (.cells (sec b) 40)) (w.heap.size + 1) b := heap2 w _ _
  obtain ⟨C, HC⟩ : ∃ C : Array Value, Hid (sec a = C) := ⟨_, hid rfl⟩
  obtain ⟨D, HD⟩ : ∃ C : Array Value, Hid (sec b = C) := ⟨_, hid rfl⟩
  obtain ⟨q, HQ⟩ : ∃ q : Bool, Hid (lessS a b = q) := ⟨_, hid rfl⟩
  rw [HC.out, HD.out] at hb0 hA hB ⊢
  rw [HQ.out]
  go_enter Tryz.func16, Tryz.ntmps16
  go_upto_region 1 with (fail)
  generalize ((w.alloc (.cells C 40)).alloc (.cells D 40)) = w0 at *
  obtain ⟨k0, k1, k2⟩ := hA.cells
  obtain ⟨j0, j1, j2⟩ := hB.cells
  clear hA hB HC HD
  obtain ⟨vi, ph, pv, pa⟩ := a
  obtain ⟨vi2, ph2, pv2, pa2⟩ := b
  simp only at k0 k1 k2 j0 j1 j2
  go_wp2_with fail
  all_goals
    go_ret
    refine ⟨?_, hb0⟩
    refine congrArg (fun b => Ending.returned (Value.bool b)) ?_
    rw [← HQ.out]
    unfold lessS
    simp only
  all_goals grind
end Go.Proofs.YtghophbabbaleaaGreatDoor
namespace Go.Proofs.YtghophbabbaleaaGreatDoor
set_option maxRecDepth 20000
open Go.RowKit
attribute [local go_sem ↓] exec_load_se exec_build_se exec_eq_se
def highS (s : SeM) : Int := if s.ph = 3 then s.vi else s.vi - 1
def laterS (s : SeM) : Bool := if s.vi < 1 ∨ 1099511627776 < s.vi ∨ s.ph < 1 ∨ 3 < s.ph then false else decide (0 ≤ s.pv) && decide (s.pv ≤ highS s)
theorem mayS_later (s : SeM) : mayS s = (decide (s = seZ) || laterS s) := by
  by_cases h0 : s = seZ
  · subst h0
    decide
  · unfold mayS laterS highS
    simp only [h0, decide_false, Bool.false_or]
    obtain ⟨vi, ph, pv, pa⟩ := s
    simp only
    by_cases h : vi = 0
    · subst h
      rw [if_pos rfl, if_pos (by omega)]
    · rw [if_neg h]
      by_cases h1 : vi < 1 ∨ 1099511627776 < vi ∨ ph < 1 ∨ 3 < ph
      · rw [if_pos h1, if_pos (by omega)]
      · rw [if_neg h1]
        by_cases h2 : pv < 0
        · rw [if_pos (by omega), decide_eq_false (show ¬ 0 ≤ pv by omega)]
          rfl
        · rw [if_neg (by omega), decide_eq_true (show 0 ≤ pv by omega), Bool.true_and, Bool.eq_iff_iff]
          by_cases h3 : ph = 3
          · rw [if_pos h3]
            simp only [Bool.or_eq_true, Bool.and_eq_true, decide_eq_true_eq]
            omega
          · rw [if_neg h3]
            simp only [Bool.or_eq_true, Bool.and_eq_true, decide_eq_true_eq]
            omega
set_option maxHeartbeats 1600000 in
theorem seHigh_any (s : SeM) (w : World) (h1 : 1 ≤ s.vi) (h2 : s.vi ≤ 1099511627776) :
    Calls Tryz.prog 114 #[.agg (sec s)] w fun e w' => e = .returned (.int .i64 (highS s)) ∧ Below w.heap.size w w' := by
  have hb0 : Below w.heap.size w (w.alloc (.cells (sec s) 40)) := (Below.refl _ _).alloc (Nat.le_refl _) _
  have hA := BoxSe.new w s
  obtain ⟨C, HC⟩ : ∃ C : Array Value, Hid (sec s = C) := ⟨_, hid rfl⟩
  obtain ⟨q, HQ⟩ : ∃ q : Int, Hid (highS s = q) := ⟨_, hid rfl⟩
  rw [HC.out] at hb0 hA ⊢
  rw [HQ.out]
  go_enter Tryz.func114, Tryz.ntmps114
  go_upto_region 1 with (fail)
  generalize (w.alloc (.cells C 40)) = w0 at *
  obtain ⟨k0, k1, k2⟩ := hA.cells
  clear hA HC
  obtain ⟨vi, ph, pv, pa⟩ := s
  simp only at k0 k1 k2 h1 h2
  have hw : IntKind.i64.wrap (vi - 1) = vi - 1 := by rw [IntKind.wrap_i64]; omega
  have HH := hid (show 1 ≤ vi ∧ vi ≤ 1099511627776 from ⟨h1, h2⟩)
  clear h1 h2
  by_cases h3 : ph = 3
  all_goals
    go_wp2_with fail
    go_ret
    refine ⟨?_, hb0⟩
    refine congrArg (fun b => Ending.returned (Value.int IntKind.i64 b)) ?_
    rw [← HQ.out]
    unfold highS
    simp [h3]
set_option maxHeartbeats 3200000 in
theorem seLater_any (s : SeM) (w : World) (ho : s.Ok) :
    Calls Tryz.prog 69 #[.agg (sec s)] w fun e w' => e = .returned (.bool (laterS s)) ∧ Below w.heap.size w w' := by
  have hb0 : Below w.heap.size w (w.alloc (.cells (sec s) 40)) := (Below.refl _ _).alloc (Nat.le_refl _) _
  have hA := BoxSe.new w s
  have HHI : Hid (1 ≤ s.vi → s.vi ≤ 1099511627776 → ∀ W, Calls Tryz.prog 114 #[.agg (sec s)] W fun e w' => e = .returned (.int .i64 (highS s)) ∧ Below W.heap.size W w') := hid (fun h1 h2 W => seHigh_any s W h1 h2)
  obtain ⟨C, HC⟩ : ∃ C : Array Value, Hid (sec s = C) := ⟨_, hid rfl⟩
  obtain ⟨q, HQ⟩ : ∃ q : Bool, Hid (laterS s = q) := ⟨_, hid rfl⟩
  obtain ⟨hi, HHA⟩ : ∃ q : Int, Hid (highS s = q) := ⟨_, hid rfl⟩
  have HLD0 : Hid (∀ W, BoxSe W w.heap.size s → loadSe (.pointer (some ⟨w.heap.size, 0, none⟩)) W = .ok (.value (.agg C)) W) := hid (fun W h => by
    have := loadSe_eq h ho
    rw [HC.out] at this
    exact this)
  rw [HC.out] at hb0 hA HHI ⊢
  rw [HHA.out] at HHI
  rw [HQ.out]
  have HM : Hid (q = if s.vi < 1 ∨ 1099511627776 < s.vi ∨ s.ph < 1 ∨ 3 < s.ph then false else decide (0 ≤ s.pv) && decide (s.pv ≤ hi)) := hid (by rw [← HQ.out, ← HHA.out]; rfl)
  go_enter Tryz.func69, Tryz.ntmps69
  go_upto_region 1 with (fail)
  generalize (w.alloc (.cells C 40)) = w0 at *
  have HX : Hid (∀ W : World, Below w0.heap.size w0 W → W.cell? ⟨w.heap.size, 2, none⟩ = some (.int .i64 s.pv) ∧ loadSe (.pointer (some ⟨w.heap.size, 0, none⟩)) W = .ok (.value (.agg C)) W) := hid (fun W h => ⟨(hA.keep h).cells.2.2, HLD0.out W (hA.keep h)⟩)
  obtain ⟨k0, k1, k2⟩ := hA.cells
  clear hA HC ho HQ HHA HLD0
  obtain ⟨vi, ph, pv, pa⟩ := s
  simp only at k0 k1 k2 HX HHI HM
  have hd1 : ∀ a : Int, (1099511627776 < a) = (1099511627776 < a) := fun _ => rfl
  clear hd1
  by_cases h1 : vi < 1
  · go_wp2_with fail
    go_ret
    exact ⟨by rw [HM.out, if_pos (.inl h1)]; rfl, hb0⟩
  by_cases h2 : 1099511627776 < vi
  · go_wp2_with fail
    go_ret
    exact ⟨by rw [HM.out, if_pos (.inr (.inl h2))]; rfl, hb0⟩
  by_cases h3 : ph < 1
  · go_wp2_with fail
    go_ret
    exact ⟨by rw [HM.out, if_pos (.inr (.inr (.inl h3)))]; rfl, hb0⟩
  by_cases h4 : 3 < ph
  · go_wp2_with fail
    go_ret
    exact ⟨by rw [HM.out, if_pos (.inr (.inr (.inr h4)))]; rfl, hb0⟩
  have HI := hid (HHI.out (by omega) (by omega))
  have HM3 : Hid (q = (decide (0 ≤ pv) && decide (pv ≤ hi))) := hid (by rw [HM.out, if_neg (by omega)])
  clear HHI HM
  go_upto_region 3 with (fail)
  clear k0 k1 k2 h1 h2 h3 h4
  have hbd : Below w0.heap.size w0 w0.drew := (Below.refl _ _).drew
  refine wp_region_held_drew (S := fun W => W.cell? ⟨w.heap.size, 2, none⟩ = some (.int .i64 pv) ∧ loadSe (.pointer (some ⟨w.heap.size, 0, none⟩)) W = .ok (.value (.agg C)) W) (by kernel_rfl) (HX.out _ hbd) (fun hHeld => ?_)
  obtain ⟨d0, HD0⟩ : ∃ d : Bool, Hid (decide (0 ≤ pv) = d) := ⟨_, hid rfl⟩
  obtain ⟨d1, HD1⟩ : ∃ d : Bool, Hid (decide (pv ≤ hi) = d) := ⟨_, hid rfl⟩
  refine' tk (i := 0) (v := _) rfl ?_ ?_
  rotate_left
  · (intro W hW; (try dsimp only at hW); go_simp; first | done | with_reducible rfl)
  try simp only [lay]
  refine' tk (i := 1) (v := _) rfl ?_ ?_
  rotate_left
  · (intro W hW; (try dsimp only at hW); have hW1 := hW.1; clear hW; go_simp; first | done | with_reducible rfl)
  try simp only [lay]
  refine' tk (i := 2) (v := _) rfl ?_ ?_
  rotate_left
  · (intro W hW; (try dsimp only at hW); go_simp; first | done | with_reducible rfl)
  try simp only [lay]
  rw [HD0.out]
  refine' tk (i := 3) (v := _) rfl ?_ ?_
  rotate_left
  · (intro W hW; (try dsimp only at hW); go_simp; first | done | with_reducible rfl)
  try simp only [lay]
  cases d0 with
  | false =>
    refine tf (i := 4) rfl ?_
    try simp only [lay]
    refine tf (i := 5) rfl ?_
    try simp only [lay]
    refine tf (i := 6) rfl ?_
    try simp only [lay]
    refine tf (i := 7) rfl ?_
    try simp only [lay]
    refine tf (i := 8) rfl ?_
    try simp only [lay]
    refine' tk (i := 9) (v := _) rfl ?_ ?_
    rotate_left
    · (intro W hW; (try dsimp only at hW); go_simp; first | done | with_reducible rfl)
    try simp only [lay]
    refine' tk (i := 10) (v := _) rfl ?_ ?_
    rotate_left
    · (intro W hW; (try dsimp only at hW); go_simp; first | done | with_reducible rfl)
    try simp only [lay]
    refine wpAnyH_done (by kernel_rfl) ?_ _
    go_wp2_with fail
    go_ret
    exact ⟨by rw [HM3.out, HD0.out]; rfl, hb0.trans (hbd.mono hb0.size)⟩
  | true =>
    refine' tk (i := 4) (v := _) rfl ?_ ?_
    rotate_left
    · (intro W hW; (try dsimp only at hW); go_simp; first | done | with_reducible rfl)
    try simp only [lay]
    refine' tk (i := 5) (v := _) rfl ?_ ?_
    rotate_left
    · (intro W hW; (try dsimp only at hW); have hW1 := hW.1; clear hW; go_simp; first | done | with_reducible rfl)
    try simp only [lay]
    refine' tk (i := 6) (v := _) rfl (fun W hW => hW.2) ?_
    try simp only [lay]
    refine call_on (i := 7) rfl (by kernel_rfl) (by rfl) (fun K hK => ?_)
    go_simp
    refine (HI.out _).mono ?_
    rintro e w2 ⟨rfl, hb2'⟩
    have hb2 := hbd.trans (hb2'.mono hbd.size)
    refine hK.out _ _ (HX.out _ hb2) (fun hHeld => ?_)
    clear hK K
    try simp only [lay]
    refine' tk (i := 8) (v := _) rfl ?_ ?_
    rotate_left
    · (intro W hW; (try dsimp only at hW); go_simp; first | done | with_reducible rfl)
    try simp only [lay]
    rw [HD1.out]
    refine' tk (i := 9) (v := _) rfl ?_ ?_
    rotate_left
    · (intro W hW; (try dsimp only at hW); go_simp; first | done | with_reducible rfl)
    try simp only [lay]
    refine' tk (i := 10) (v := _) rfl ?_ ?_
    rotate_left
    · (intro W hW; (try dsimp only at hW); go_simp; first | done | with_reducible rfl)
    try simp only [lay]
    refine wpAnyH_done (by kernel_rfl) ?_ _
    go_wp2_with fail
    go_ret
    exact ⟨by rw [HM3.out, HD0.out, HD1.out]; cases d1 <;> rfl, hb0.trans (hb2.mono hb0.size)⟩
set_option maxHeartbeats 3200000 in
theorem seCheck_ok : SeCheckOk := by
  intro s w ho
  have hb0 : Below w.heap.size w (w.alloc (.cells (sec s) 40)) := (Below.refl _ _).alloc (Nat.le_refl _) _
  have hA := BoxSe.new w s
  have l0 := loadSe_eq hA ho
  have HLA : Hid (∀ W, Calls Tryz.prog 69 #[.agg (sec s)] W fun e w' => e = .returned (.bool (laterS s)) ∧ Below W.heap.size W w') := hid (fun W => seLater_any s W ho)
  have heq : ∀ W, eqSe (.agg (sec s)) (.agg (sec seZ)) W = .ok (.value (.bool (decide (s = seZ)))) W := fun W => eqSe_eq s seZ ho seZ_ok W
  have hbz := buildSe_eq
  have hml := mayS_later s
  obtain ⟨C, HC⟩ : ∃ C : Array Value, Hid (sec s = C) := ⟨_, hid rfl⟩
  obtain ⟨Z, HZ⟩ : ∃ C : Array Value, Hid (sec seZ = C) := ⟨_, hid rfl⟩
  obtain ⟨d, HD⟩ : ∃ q : Bool, Hid (decide (s = seZ) = q) := ⟨_, hid rfl⟩
  obtain ⟨la, HL⟩ : ∃ q : Bool, Hid (laterS s = q) := ⟨_, hid rfl⟩
  obtain ⟨q, HQ⟩ : ∃ q : Int, Hid ((if mayS s = true then (0 : Int) else 1) = q) := ⟨_, hid rfl⟩
  rw [HD.out, HL.out] at hml
  have HML := hid hml
  rw [HC.out] at hb0 hA l0 heq HLA ⊢
  rw [HZ.out] at hbz heq
  rw [HD.out] at heq
  rw [HL.out] at HLA
  rw [HQ.out]
  go_enter Tryz.func40, Tryz.ntmps40
  go_upto_region 1 with (fail)
  generalize (w.alloc (.cells C 40)) = w0 at *
  clear hA HC HZ HD HL ho hml
  cases d with
  | true =>
    go_wp2_with fail
    go_ret
    exact ⟨by rw [← HQ.out, HML.out]; rfl, hb0⟩
  | false =>
    go_wp2_with fail
    refine (HLA.out w0).mono ?_
    rintro e w1 ⟨rfl, hb1⟩
    clear l0 heq hbz
    cases la with
    | true =>
      go_wp2_with fail
      go_ret
      exact ⟨by rw [← HQ.out, HML.out]; rfl, hb0.trans (hb1.mono hb0.size)⟩
    | false =>
      go_wp2_with fail
      go_ret
      exact ⟨by rw [← HQ.out, HML.out]; rfl, hb0.trans (hb1.mono hb0.size)⟩
set_option maxHeartbeats 3200000 in
theorem seLess_ok : SeLessOk := by
  intro a b w _ _
  have hb0 : Below w.heap.size w ((w.alloc (.cells (sec a) 40)).alloc (.cells (sec b) 40)) := ((Below.refl _ _).alloc (Nat.le_refl _) _).alloc (by simp) _
  have hA : BoxSe ((w.alloc (.cells (sec a) 40)).alloc (.cells (sec b) 40)) w.heap.size a := heap1 w _ _
  have hB : BoxSe ((w.alloc (.cells (sec a) 40)).alloc (.cells (sec b) 40)) (w.heap.size + 1) b := heap2 w _ _
  obtain ⟨C, HC⟩ : ∃ C : Array Value, Hid (sec a = C) := ⟨_, hid rfl⟩
  obtain ⟨D, HD⟩ : ∃ C : Array Value, Hid (sec b = C) := ⟨_, hid rfl⟩
  obtain ⟨q, HQ⟩ : ∃ q : Bool, Hid (lessS a b = q) := ⟨_, hid rfl⟩
  rw [HC.out, HD.out] at hb0 hA hB ⊢
  rw [HQ.out]
  go_enter Tryz.func91, Tryz.ntmps91
  go_upto_region 1 with (fail)
  generalize ((w.alloc (.cells C 40)).alloc (.cells D 40)) = w0 at *
  obtain ⟨k0, k1, k2⟩ := hA.cells
  obtain ⟨j0, j1, j2⟩ := hB.cells
  clear hA hB HC HD
  obtain ⟨vi, ph, pv, pa⟩ := a
  obtain ⟨vi2, ph2, pv2, pa2⟩ := b
  simp only at k0 k1 k2 j0 j1 j2
  go_wp2_with fail
  all_goals
    go_ret
    refine ⟨?_, hb0⟩
    refine congrArg (fun b => Ending.returned (Value.bool b)) ?_
    rw [← HQ.out]
    unfold lessS
    simp only
  all_goals grind
end Go.Proofs.YtghophbabbaleaaGreatDoor
namespace Go.Proofs.YtghophbabbaleaaGreatDoor
set_option maxRecDepth 20000
open Go.RowKit
attribute [local go_sem ↓] exec_load_hash
theorem arr4 : ArrT 157 3 4 (.int .i64 0) := ⟨by kernel_rfl, by kernel_rfl, by kernel_rfl, by kernel_rfl, by kernel_rfl, by kernel_rfl, rfl⟩
theorem wpList_build_four {ops : Array Oper} {rest : List Oper} {o : Oper} {a : Act} {w : World} {Q : Exit → Act → World → Prop} (hgd : o.guard = none) {x0 x1 x2 x3 : Operand} (ho : o.op = .build 157 #[(0, x0), (1, x1), (2, x2), (3, x3)])
    (v0 v1 v2 v3 : Int) (h0 : a.eval x0 = .int .i64 v0) (h1 : a.eval x1 = .int .i64 v1) (h2 : a.eval x2 = .int .i64 v2) (h3 : a.eval x3 = .int .i64 v3)
    (h : wpList Tryz.prog ops Q rest (a.put o.dst (.agg #[.int .i64 v0, .int .i64 v1, .int .i64 v2, .int .i64 v3])) w) : wpList Tryz.prog ops Q (o :: rest) a w :=
  wpList_plain hgd fun _ hK => by
    have e : (Instr.build 157 #[(0, .int .i64 v0), (1, .int .i64 v1), (2, .int .i64 v2), (3, .int .i64 v3)]).run Tryz.prog w = .ok (.agg #[.int .i64 v0, .int .i64 v1, .int .i64 v2, .int .i64 v3]) w := by
      have e2 : fcells 4 (fun _ => (.int .i64 0 : Value)) = #[.int .i64 0, .int .i64 0, .int .i64 0, .int .i64 0] := by kernel_rfl
      simp [Instr.build, Sem.run_bind, arr4.run_zero, run_underlying arr4.under, arr4.run_esize, Instr.fill, Value.cells, e2]
    unfold Oper.wp execOp
    simp only [ho, Sem.run_bind, List.map_toArray, List.map_cons, List.map_nil, h0, h1, h2, h3, e, Sem.run_pure, Result.andThen_ok]
    exact hK _ _ h
theorem four_index (a b c d : Int) (i : Nat) (hi : i < 4) (w : World) : (Instr.index 157 (.agg #[.int .i64 a, .int .i64 b, .int .i64 c, .int .i64 d]) (.int .i64 (i : Int))).run Tryz.prog w = .ok (.int .i64 ([a, b, c, d].getD i 0)) w := by
  have e2 : (#[.int .i64 a, .int .i64 b, .int .i64 c, .int .i64 d] : Array Value) = fcells 4 (fun j => .int .i64 ([a, b, c, d].getD j 0)) := rfl
  rw [e2, arr4.run_index _ hi]
end Go.Proofs.YtghophbabbaleaaGreatDoor
namespace Go.Proofs.YtghophbabbaleaaGreatDoor
set_option maxRecDepth 20000
open Go.RowKit
theorem setSe_self {w : World} {g : Nat} {t : TypeId} {C : Array Value} {fr : Nat × Nat} (hg : w.heap[g]? = some (.cells C t fr)) : setSe w g C = w := by
  have e : ∀ f : Obj → Obj, f (.cells C t fr) = .cells C t fr → w.heap.modify g f = w.heap := by
    intro f hf
    apply Array.ext_getElem?
    intro k
    rw [Array.getElem?_modify]
    by_cases h : g = k
    · subst h
      rw [if_pos rfl, hg]
      simp [hf]
    · rw [if_neg h]
  unfold setSe World.setRow
  rw [e _ rfl]
theorem wp_store_se {op : Oper} {ac : Act} {w : World} {K : Act → World → Prop} {Q : Exit → Act → World → Prop} (x y : Operand) (ho : op.op = .store 40 x y) {g : Nat} {t : TypeId} {C0 C : Array Value}
    (hx : ac.eval x = .pointer (some ⟨g, 0, none⟩)) (hy : ac.eval y = .agg C) (hg : w.heap[g]? = some (.cells C0 t (0, 0))) (hi : C.size = 35) (hs : C0.size = 35) (h1 : C.all (·.oneCell') = true)
    (hh : ∀ w', w.grownBy w' (some g) → w'.heap[g]? = some (.cells C t (0, 0)) → w'.heap.size = w.heap.size → K (ac.put op.dst undef) w') : op.wp Tryz.prog ac w K Q := by
  refine wp_store_mid _ x y ho g 0 C hx hy (fun j hj => ⟨?_, free_blk hg _⟩) (by rw [size_se, hi]) h1 ?_
  · rw [cell_blk hg, Nat.zero_add, Array.getElem?_eq_getElem (by omega)]
    rfl
  · refine hh _ (grown_setCells g _ _ _) ?_ (setCells_size g _ _ _)
    have := setCells_row C.toList 0 w C0 hg
    have e := putAt_mid C.toList [] C0.toList [] (by rw [Array.length_toList, Array.length_toList, hi, hs])
    simp only [List.nil_append, List.append_nil, List.length_nil, Array.toArray_toList] at e
    rw [e] at this
    exact this
end Go.Proofs.YtghophbabbaleaaGreatDoor
namespace Go.Proofs.YtghophbabbaleaaGreatDoor
set_option maxRecDepth 20000
open Go.RowKit
theorem setSe_alloc (w : World) (T : TypeId) (C0 C : Array Value) : setSe (w.alloc (.cells C0 T)) w.heap.size C = w.alloc (.cells C T) := by
  have hm : ∀ (a : Array Obj) (x : Obj) (f : Obj → Obj), (a.push x).modify a.size f = a.push (f x) := by
    intro a x f
    apply Array.ext_getElem?
    intro k
    rw [Array.getElem?_modify]
    by_cases h : a.size = k
    · subst h
      simp
    · rw [if_neg h, Array.getElem?_push, Array.getElem?_push]
      rw [if_neg (fun e => h e.symm), if_neg (fun e => h e.symm)]
  unfold setSe World.setRow World.alloc
  simp only [hm]
theorem se_var (w : World) {Z S : Array Value} (hZ : Z.size = 35) (hS : S.size = 35) (h1 : S.all (·.oneCell') = true) :
    storeSe (.pointer (some ⟨w.heap.size, 0, none⟩)) (.agg S) (w.alloc (.cells Z 40)) = .ok .skip (w.alloc (.cells S 40)) := by
  rw [storeSe_eq (heap_alloc_new w _) hZ hS h1, setSe_alloc]
attribute [local go_sem ↓] exec_alloc_se exec_store_se exec_build_se
end Go.Proofs.YtghophbabbaleaaGreatDoor
namespace Go.Proofs.YtghophbabbaleaaGreatDoor
set_option maxRecDepth 20000
open Go.ChangeShapes Go.WideShapes Go.ChangeAt Go.RowKit Go.Deep
section
variable {H : Type} {enc : TypeId × Value → H} {w : World} {base : Nat} {spare : Nat → Bool} {held : Bool} {fuel : Nat} {cs : List Value} {x : DataW H × List MemPlace}
theorem fields_se4 : ∃ f0 f1 f2 f3 : Field, Tryz.prog.underlying 40 = some (.struct #[f0, f1, f2, f3]) ∧ (f0.type, f0.offset) = (3, 0) ∧ (f1.type, f1.offset) = (3, 1) ∧ (f2.type, f2.offset) = (3, 2) ∧ (f3.type, f3.offset) = (38, 3) :=
  ⟨_, _, _, _, Tryz.underlying40, rfl, rfl, rfl, rfl⟩
theorem trod_se (h : DataW.trod enc Tryz.prog w base spare held fuel 40 cs = some x) : ∃ a : SeM, a.Ok ∧ cs = sel a := by
  obtain ⟨f0, f1, f2, f3, hu, e0, e1, e2, e3⟩ := fields_se4
  injection e0 with t0 o0
  injection e1 with t1 o1
  injection e2 with t2 o2
  injection e3 with t3 o3
  obtain ⟨xs, m, _, _, hlen, hxl, hf⟩ := DataW.trod_struct hu h
  have hc : Tryz.prog.cellsOf 40 = 35 := by kernel_rfl
  have hci : Tryz.prog.cellsOf 3 = 1 := by kernel_rfl
  have hch : Tryz.prog.cellsOf 38 = 32 := by kernel_rfl
  rw [hc] at hlen
  have hx : xs.length = 4 := hxl
  have g0 := hf 0 f0 rfl
  have g1 := hf 1 f1 rfl
  have g2 := hf 2 f2 rfl
  have g3 := hf 3 f3 rfl
  rw [t0, o0, hci, List.getElem?_eq_getElem (by omega)] at g0
  rw [t1, o1, hci, List.getElem?_eq_getElem (by omega)] at g1
  rw [t2, o2, hci, List.getElem?_eq_getElem (by omega)] at g2
  rw [t3, o3, hch, List.getElem?_eq_getElem (by omega)] at g3
  obtain ⟨n0, c0, _, _⟩ := DataW.trod_int Tryz.underlying3 g0
  obtain ⟨n1, c1, _, _⟩ := DataW.trod_int Tryz.underlying3 g1
  obtain ⟨n2, c2, _, _⟩ := DataW.trod_int Tryz.underlying3 g2
  obtain ⟨pa, h3, c3⟩ := trod_hash g3
  refine ⟨⟨n0, n1, n2, pa⟩, h3, ?_⟩
  have e : cs = cs.drop 0 := rfl
  rw [e, drop_part c0, drop_part c1, drop_part c2, drop_part c3, List.drop_eq_nil_of_le (by omega)]
  unfold sel
  simp only [List.append_nil, List.cons_append, List.nil_append]
end
end Go.Proofs.YtghophbabbaleaaGreatDoor
