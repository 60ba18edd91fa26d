/-
  AtTag AtRight AtOk AtAwake AtCodeAlike AtCodeMay AtCodeTagged AtCodeSign AtCodeRight: what each of them says stands at its head.
-/
import Derived.Test.YtpnejoglkmfleaaGreatDoorBs6
import Derived.Test.YtpnejoglkmfleaaGreatDoorBs9
namespace Go.Proofs.YtpnejoglkmfleaaGreatDoor
set_option maxRecDepth 20000
open Go.RowKit
attribute [local go_sem ↓] exec_load_hash exec_load_att exec_alloc_att exec_store_att
def tagA (a : AtM) : List UInt8 := hl 32 (tagF a.bo 1 (taggedA a))
theorem tagA_len (a : AtM) : (tagA a).length = 32 := hl_length _ _
def signA (a : AtM) : AtM := { a with tg := tagA a }
theorem signA_ok {a : AtM} (h : a.Ok) : (signA a).Ok := ⟨h.ha, h.pa, tagA_len a⟩
theorem wp_store_arrH {op : Oper} {a : Act} {w : World} {K : Act → World → Prop} {Q : Exit → Act → World → Prop} (x y : Operand) (ho : op.op = .store 34 x y) {g : Nat} {t : TypeId} {f f' : Nat → Value}
    (hx : a.eval x = .pointer (some ⟨g, 0, none⟩)) (hy : a.eval y = .agg (fcells 32 f')) (hg : Blk w g 32 f t) (h1 : ∀ i, i < 32 → (f' i).oneCell' = true)
    (hh : ∀ w', w.grownBy w' (some g) → Blk w' g 32 f' t → w'.heap.size = w.heap.size → K (a.put op.dst undef) w') : op.wp Tryz.prog a w K Q := by
  obtain ⟨w', hrun, hgr, hb, hs⟩ := arrH.store_mid (o := 0) (f' := f') hg (by omega) h1
  unfold Oper.wp execOp
  simp only [ho, hx, hy, Sem.run_bind, hrun, Result.andThen_ok, Sem.run_pure]
  exact hh w' hgr (hb.congr fun i hi => by rw [if_pos ⟨Nat.zero_le _, by omega⟩, Nat.sub_zero]) hs
set_option maxHeartbeats 3200000 in
theorem refTag8_any (a : AtM) (w : World) (ho : a.Ok) (hm : mayA a = true) (hK : Kst 1 w) :
    Calls Tryz.prog 37 #[.agg (atc a)] w fun e w' => e = .returned (.agg (hcells (tagA a))) ∧ Below w.heap.size w w' := by
  have hr0 := heap1 w (.cells (atc a) 36) (.cells (fcells 32 fun _ => bcell 0) 34)
  have hH0 : Blk ((w.alloc (.cells (atc a) 36)).alloc (.cells (fcells 32 fun _ => bcell 0) 34)) (w.heap.size + 1) 32 (fun _ => bcell 0) 34 := heap2 w (.cells (atc a) 36) _
  have hb0 : Below w.heap.size w ((w.alloc (.cells (atc a) 36)).alloc (.cells (fcells 32 fun _ => bcell 0) 34)) := ((Below.refl _ _).alloc (Nat.le_refl _) _).alloc (by simp) _
  have HTD := hid (fun W => refTagged_any a W ho hm)
  have HKB := hid (fun W (h : Below w.heap.size w W) => (show Kst 1 W from hK.below h))
  have hlen := taggedA_len ho hm
  have HTG : Hid (∀ v W, Below w.heap.size w W → Byt W v (taggedA a) → Calls Tryz.prog 52 #[.int .i64 a.bo, .int .u8 1, v] W fun e w' => e = .returned (.agg (fcells 32 fun j => bcell (tagF a.bo 1 (taggedA a) j))) ∧ Below W.heap.size W w') := hid (fun v W h hv => by
    have := refTag_any a.bo 1 v (taggedA a) W hv (by omega) (HKB.out W h)
    exact this)
  obtain ⟨C, HC⟩ : ∃ C : Array Value, Hid (atc a = C) := ⟨_, hid rfl⟩
  obtain ⟨τ, HT⟩ : ∃ t : Nat → UInt8, Hid (tagF a.bo 1 (taggedA a) = t) := ⟨_, hid rfl⟩
  obtain ⟨D, HD⟩ : ∃ C : Array Value, Hid ((fcells 32 fun j => bcell (τ j)) = C) := ⟨_, hid rfl⟩
  have HRS : Hid (hcells (tagA a) = D) := hid (by rw [← HD.out, ← HT.out, fcells_hl]; rfl)
  rw [HC.out] at hr0 hH0 hb0 HTD ⊢
  rw [HT.out, HD.out] at HTG
  rw [HRS.out]
  have hA : BoxA ((w.alloc (.cells C 36)).alloc (.cells (fcells 32 fun _ => bcell 0) 34)) w.heap.size a := by
    unfold BoxA
    rw [HC.out]
    exact hr0
  have HOK := hid ho
  have HCS : Hid (C.size = 101) := hid (by rw [← HC.out]; exact atc_size ho)
  clear hK ho hm hlen hr0
  go_enter Tryz.func37, Tryz.ntmps37
  go_upto_region 1 with (refine wpList_alloc_arr arrH rfl rfl ?_)
  generalize ((w.alloc (.cells C 36)).alloc (.cells (fcells 32 fun _ => bcell 0) 34)) = w0 at *
  have HXR : Hid (∀ W : World, BoxA W w.heap.size a → W.cell? ⟨w.heap.size, 0, none⟩ = some (.int .i64 a.bo) ∧ loadAtt (.pointer (some ⟨w.heap.size, 0, none⟩)) W = .ok (.value (.agg C)) W) := hid (fun W hW => by
    refine ⟨hW.cells.1, ?_⟩
    have := loadAtt_eq hW HOK.out
    rw [HC.out] at this
    exact this)
  have HA := hid hA
  have HX := hid (fun W (h : Below w0.heap.size w0 W) => HXR.out W (hA.keep h))
  have hbd : Below w0.heap.size w0 w0.drew := (Below.refl _ _).drew
  have HH0 := hid hH0
  clear hA hH0
  refine wp_region_held_drew (S := fun W => W.cell? ⟨w.heap.size, 0, none⟩ = some (.int .i64 a.bo) ∧ loadAtt (.pointer (some ⟨w.heap.size, 0, none⟩)) W = .ok (.value (.agg C)) W) (by kernel_rfl) (HX.out _ hbd) (fun hHeld => ?_)
  refine' tk (i := 0) (v := _) rfl ?_ ?_
  rotate_left
  · (intro W hW; (try dsimp only at hW); go_simp; first | done | with_reducible rfl)
  try simp only [lay]
  refine' tk (i := 1) (v := _) rfl ?_ ?_
  rotate_left
  · (intro W hW; (try dsimp only at hW); obtain ⟨hW1, hW2⟩ := hW; go_simp; first | done | with_reducible rfl)
  try simp only [lay]
  refine' tk (i := 2) (v := _) rfl (fun W hW => hW.2) ?_
  try simp only [lay]
  refine call_on (i := 3) rfl (by kernel_rfl) (by rfl) (fun K hK => ?_)
  go_simp
  refine (HTD.out w0.drew).mono ?_
  rintro e w2 ⟨v2, rfl, ho2, hb2'⟩
  have hb2 := hbd.trans hb2'
  refine hK.out _ _ (HX.out _ hb2) (fun hHeld => ?_)
  clear hK K
  try simp only [lay]
  refine call_on (i := 4) rfl (by kernel_rfl) (by rfl) (fun K hK => ?_)
  go_simp
  refine (HTG.out v2 w2 (hb0.trans (hb2.mono hb0.size)) ho2.byt).mono ?_
  rintro e w3 ⟨rfl, hb3'⟩
  have hb3 := hb2.trans (hb3'.mono hb2.size)
  have hB3 := hb0.trans (hb3.mono hb0.size)
  have hH3 := HH0.out.keep hb3
  refine hK.out _ _ (HX.out _ hb3) (fun hHeld => ?_)
  clear hK K
  try simp only [lay]
  refine call_on (i := 5) rfl (by kernel_rfl) (by rfl) (fun K hK => ?_)
  refine wp_store_arrH (f' := fun j => bcell (τ j)) _ _ rfl rfl (by rw [HD.out]; rfl) hH3 (fun _ _ => rfl) ?_
  intro w4 hg4 hH4 hs4
  have hA4 : BoxA w4 w.heap.size a := (hg4.block _ (Nat.lt_of_lt_of_le HA.out.lt hb3.size) (fun e => by injection e with e; omega)).trans (HA.out.keep hb3)
  refine hK.out _ _ (HXR.out _ hA4) (fun hHeld => ?_)
  clear hK K
  try simp only [Act.put]
  refine wpAnyH_done (by kernel_rfl) ?_ _
  go_wp2_with fail
  refine bodyPost_ret (arrH.result rfl _ _ rfl hH4) rfl ⟨by rw [HD.out], ?_⟩
  exact below_into hB3 (Nat.le_succ _) hg4 hB3.size
end Go.Proofs.YtpnejoglkmfleaaGreatDoor
namespace Go.Proofs.YtpnejoglkmfleaaGreatDoor
set_option maxRecDepth 20000
open Go.RowKit
attribute [local go_sem ↓] exec_load_att exec_load_hash
def rightA (a : AtM) : Bool := mayA a && decide (a.tg = tagA a)
set_option maxHeartbeats 3200000 in
theorem refRight8_any (a : AtM) (w : World) (ho : a.Ok) (hK : Kst 1 w) :
    Calls Tryz.prog 20 #[.agg (atc a)] w fun e w' => e = .returned (.bool (rightA a)) ∧ Below w.heap.size w w' := by
  obtain ⟨m, HM⟩ : ∃ m : Bool, Hid (mayA a = m) := ⟨_, hid rfl⟩
  obtain ⟨q, HQ⟩ : ∃ q : Bool, Hid (decide (a.tg = tagA a) = q) := ⟨_, hid rfl⟩
  have HR : Hid (rightA a = (m && q)) := hid (by unfold rightA; rw [HM.out, HQ.out])
  have HMA : Hid (∀ W, Calls Tryz.prog 36 #[.agg (atc a)] W fun e w' => e = .returned (.bool m) ∧ Below W.heap.size W w') := hid (fun W => by
    have := refMay8_any a W ho
    rw [HM.out] at this
    exact this)
  have HTG : Hid (m = true → ∀ W, Below w.heap.size w W → Calls Tryz.prog 37 #[.agg (atc a)] W fun e w' => e = .returned (.agg (hcells (tagA a))) ∧ Below W.heap.size W w') := hid (fun h W hb => refTag8_any a W ho (HM.out.trans h) (hK.below hb))
  have HEQ : Hid (∀ W, (Op.equalIn 10000 34 (.agg (hcells a.tg)) (.agg (hcells (tagA a)))).run Tryz.prog W = .ok q W) := hid (fun W => by
    have := eq_hash a.tg (tagA a) ho.tg (tagA_len a) W
    rw [HQ.out] at this
    exact this)
  have hb0 : Below w.heap.size w (w.alloc (.cells (atc a) 36)) := (Below.refl _ _).alloc (Nat.le_refl _) _
  have hA := BoxA.new w a
  obtain ⟨C, HC⟩ : ∃ C : Array Value, Hid (atc a = C) := ⟨_, hid rfl⟩
  obtain ⟨T, HT⟩ : ∃ C : Array Value, Hid (hcells (tagA a) = C) := ⟨_, hid rfl⟩
  obtain ⟨G, HG⟩ : ∃ C : Array Value, Hid (hcells a.tg = C) := ⟨_, hid rfl⟩
  rw [HC.out, HT.out] at HTG
  rw [HC.out] at HMA hb0 hA
  rw [HG.out, HT.out] at HEQ
  rw [HR.out, HC.out]
  have HX : Hid (∀ W : World, BoxA W w.heap.size a → loadAtt (.pointer (some ⟨w.heap.size, 0, none⟩)) W = .ok (.value (.agg C)) W ∧ loadH (.pointer (some ⟨w.heap.size, 69, none⟩)) W = .ok (.value (.agg G)) W) := hid (fun W h => by
    have h1 := loadAtt_eq h ho
    have h2 := loadH_mid (h.tag ho) ho.tg
    rw [HC.out] at h1
    rw [HG.out] at h2
    exact ⟨h1, h2⟩)
  clear hK ho
  go_enter Tryz.func20, Tryz.ntmps20
  go_upto_region 1 with (fail)
  generalize (w.alloc (.cells C 36)) = w0 at *
  have HXW := hid (fun W (h : Below w0.heap.size w0 W) => HX.out W (hA.keep h))
  have hbd : Below w0.heap.size w0 w0.drew := (Below.refl _ _).drew
  clear hA
  refine wp_region_held_drew (S := fun W => loadAtt (.pointer (some ⟨w.heap.size, 0, none⟩)) W = .ok (.value (.agg C)) W ∧ loadH (.pointer (some ⟨w.heap.size, 69, none⟩)) W = .ok (.value (.agg G)) W) (by kernel_rfl) (HXW.out _ hbd) (fun hHeld => ?_)
  refine' tk (i := 0) (v := _) rfl (fun W hW => hW.1) ?_
  try simp only [lay]
  refine call_on (i := 1) rfl (by kernel_rfl) (by rfl) (fun K hK => ?_)
  go_simp
  refine (HMA.out w0.drew).mono ?_
  rintro e w2 ⟨rfl, hb2'⟩
  have hb2 := hbd.trans hb2'
  refine hK.out _ _ (HXW.out _ hb2) (fun hHeld => ?_)
  clear hK K
  try simp only [lay]
  refine' tk (i := 2) (v := _) rfl ?_ ?_
  rotate_left
  · (intro W hW; (try dsimp only at hW); go_simp; first | done | with_reducible rfl)
  try simp only [lay]
  cases m with
  | false =>
    refine tf (i := 3) rfl ?_
    try simp only [lay]
    refine tf (i := 4) rfl ?_
    try simp only [lay]
    refine tf (i := 5) rfl ?_
    try simp only [lay]
    refine tf (i := 6) rfl ?_
    try simp only [lay]
    refine tf (i := 7) rfl ?_
    try simp only [lay]
    refine' tk (i := 8) (v := _) rfl ?_ ?_
    rotate_left
    · (intro W hW; (try dsimp only at hW); go_simp; first | done | with_reducible rfl)
    try simp only [lay]
    refine' tk (i := 9) (v := _) rfl ?_ ?_
    rotate_left
    · (intro W hW; (try dsimp only at hW); go_simp; first | done | with_reducible rfl)
    try simp only [lay]
    refine wpAnyH_done (by kernel_rfl) ?_ _
    go_wp2_with fail
    go_ret
    exact ⟨rfl, hb0.trans (hb2.mono hb0.size)⟩
  | true =>
    refine' tk (i := 3) (v := _) rfl ?_ ?_
    rotate_left
    · (intro W hW; (try dsimp only at hW); go_simp; first | done | with_reducible rfl)
    try simp only [lay]
    refine' tk (i := 4) (v := _) rfl (fun W hW => hW.2) ?_
    try simp only [lay]
    refine' tk (i := 5) (v := _) rfl (fun W hW => hW.1) ?_
    try simp only [lay]
    refine call_on (i := 6) rfl (by kernel_rfl) (by rfl) (fun K hK => ?_)
    go_simp
    refine (HTG.out rfl w2 (hb0.trans (hb2.mono hb0.size))).mono ?_
    rintro e w3 ⟨rfl, hb3'⟩
    have hb3 := hb2.trans (hb3'.mono hb2.size)
    refine hK.out _ _ (HXW.out _ hb3) (fun hHeld => ?_)
    clear hK K
    try simp only [lay]
    have heq := HEQ.out
    refine' tk (i := 7) (v := _) rfl ?_ ?_
    rotate_left
    · (intro W hW; (try dsimp only at hW); go_simp; first | done | with_reducible rfl)
    try simp only [lay]
    clear heq
    refine' tk (i := 8) (v := _) rfl ?_ ?_
    rotate_left
    · (intro W hW; (try dsimp only at hW); go_simp; first | done | with_reducible rfl)
    try simp only [lay]
    refine' tk (i := 9) (v := _) rfl ?_ ?_
    rotate_left
    · (intro W hW; (try dsimp only at hW); go_simp; first | done | with_reducible rfl)
    try simp only [lay]
    refine wpAnyH_done (by kernel_rfl) ?_ _
    go_wp2_with fail
    go_ret
    exact ⟨rfl, hb0.trans (hb3.mono hb0.size)⟩
end Go.Proofs.YtpnejoglkmfleaaGreatDoor
namespace Go.Proofs.YtpnejoglkmfleaaGreatDoor
set_option maxRecDepth 20000
open Go.RowKit
def AtCheckOk : Prop := ∀ (a : AtM) (w : World), a.Ok → Calls Tryz.prog 32 #[.agg (atc a)] w fun e w' => e = .returned (.int .i64 (if mayA a = true then 0 else 1)) ∧ Below w.heap.size w w'
def AtSignOk : Prop := ∀ (a : AtM) (w : World), a.Ok → mayA a = true → Kst 0 w → Calls Tryz.prog 18 #[.agg (atc a)] w fun e w' => e = .returned (.agg (atc (signA a))) ∧ Below w.heap.size w w'
def AtRightOk : Prop := ∀ (a : AtM) (w : World), a.Ok → Kst 0 w → Calls Tryz.prog 23 #[.agg (atc a)] w fun e w' => e = .returned (.bool (rightA a)) ∧ Below w.heap.size w w'
def AtAlikeOk : Prop := ∀ (a b : AtM) (w : World), a.Ok → b.Ok → Calls Tryz.prog 39 #[.agg (atc a), .agg (atc b)] w fun e w' => e = .returned (.bool (alikeA a b)) ∧ Below w.heap.size w w'
theorem wp_store_tag {op : Oper} {ac : Act} {w : World} {K : Act → World → Prop} {Q : Exit → Act → World → Prop} (x y : Operand) (ho : op.op = .store 34 x y)
    {g : Nat} {a : AtM} {h : List UInt8} (hx : ac.eval x = .pointer (some ⟨g, 69, none⟩)) (hy : ac.eval y = .agg (hcells h)) (hg : BoxA w g a) (hok : a.Ok) (hl : h.length = 32)
    (hh : ∀ w', w.grownBy w' (some g) → BoxA w' g { a with tg := h } → w'.heap.size = w.heap.size → K (ac.put op.dst undef) w') : op.wp Tryz.prog ac w K Q := by
  have hpre : ([.int .i64 a.bo, .int .i64 a.ki, .int .i64 a.vi, .int .i64 a.ph] ++ (bcells a.ha ++ ([.int .i64 a.pv] ++ bcells a.pa)) : List Value).length = 69 := by simp only [List.length_append, bcells_length, hok.ha, hok.pa, List.length_cons, List.length_nil]
  refine wp_store_mid _ x y ho g 69 (hcells h) hx hy (fun j hj => ⟨?_, hg.free _⟩) (by rw [size_hash, hcells_size, hl]) (hcells_one _) ?_
  · rw [hcells_size, hl] at hj
    rw [hg.cell, List.getElem?_eq_getElem (by rw [atl_length hok]; omega)]
    rfl
  · rw [hcells_list]
    refine hh _ (grown_setCells g _ _ _) ?_ (setCells_size g _ _ _)
    unfold BoxA atc at hg ⊢
    rw [atl_tag] at hg ⊢
    have := setCells_row (bcells h) 69 w _ hg
    rw [← hpre, putAt_mid (bcells h) _ (bcells a.tg) [] (by rw [bcells_length, bcells_length, hl, hok.tg])] at this
    rw [← hpre]
    exact this
end Go.Proofs.YtpnejoglkmfleaaGreatDoor
namespace Go.Proofs.YtpnejoglkmfleaaGreatDoor
set_option maxRecDepth 20000
open Go.RowKit
theorem setAtt_alloc (w : World) (T : TypeId) (C0 C : Array Value) : setAtt (w.alloc (.cells C0 T)) w.heap.size C = w.alloc (.cells C T) := by
  have hm : ∀ (a : Array Obj) (x : Obj) (f : Obj → Obj), (a.push x).modify a.size f = a.push (f x) := by
    intro a x f
    apply Array.ext_getElem?
    intro k
    rw [Array.getElem?_modify]
    by_cases h : a.size = k
    · subst h
      simp
    · rw [if_neg h, Array.getElem?_push, Array.getElem?_push]
      rw [if_neg (fun e => h e.symm), if_neg (fun e => h e.symm)]
  unfold setAtt World.setRow World.alloc
  simp only [hm]
theorem att_var (w : World) {Z S : Array Value} (hZ : Z.size = 101) (hS : S.size = 101) (h1 : S.all (·.oneCell') = true) :
    storeAtt (.pointer (some ⟨w.heap.size, 0, none⟩)) (.agg S) (w.alloc (.cells Z 36)) = .ok .skip (w.alloc (.cells S 36)) := by
  rw [storeAtt_eq (heap_alloc_new w _) hZ hS h1, setAtt_alloc]
attribute [local go_sem ↓] exec_load_att exec_alloc_att exec_store_att
end Go.Proofs.YtpnejoglkmfleaaGreatDoor
namespace Go.Proofs.YtpnejoglkmfleaaGreatDoor
set_option maxRecDepth 20000
open Go.RowKit
noncomputable def eqAtt (u v : Value) (w : World) : Result Next := Sem.run Tryz.prog (execOp (fun x => match x with
  | .tmp 0 => u
  | _ => v) { dst := none, op := .binOp .eql 36 (.tmp 0) (.tmp 1) 36, type := 0, pos := "", after := #[], guard := none }) w
theorem exec_eq_att (r : Operand → Value) (i j : Tmp) (dst : Option Tmp) (ty : TypeId) (pos : String) (after : Array Edge) (guard : Option (Nat × Bool)) (w : World) :
    Sem.run Tryz.prog (execOp r { dst := dst, op := .binOp .eql 36 (.tmp i) (.tmp j) 36, type := ty, pos := pos, after := after, guard := guard }) w = eqAtt (r (.tmp i)) (r (.tmp j)) w := rfl
theorem eqAtt_eq {C D : Array Value} {q : Bool} (heq : ∀ W, (Op.equalIn 10000 36 (.agg C) (.agg D)).run Tryz.prog W = .ok q W) (w : World) : eqAtt (.agg C) (.agg D) w = .ok (.value (.bool q)) w := by
  unfold eqAtt
  go_simp
attribute [local go_sem ↓] exec_load_att exec_load_hash exec_eq_att
set_option maxHeartbeats 3200000 in
theorem atAlike_ok : AtAlikeOk := by
  intro a b w ho hp
  obtain ⟨a1, HA1⟩ : ∃ x : AtM, Hid ({ a with bo := b.bo } = x) := ⟨_, hid rfl⟩
  obtain ⟨x, HXX⟩ : ∃ x : AtM, Hid ({ a1 with tg := b.tg } = x) := ⟨_, hid rfl⟩
  have ho1 : a1.Ok := by rw [← HA1.out]; exact ⟨ho.ha, ho.pa, ho.tg⟩
  have hox : x.Ok := by rw [← HXX.out]; exact ⟨ho1.ha, ho1.pa, hp.tg⟩
  obtain ⟨q, HQ⟩ : ∃ q : Bool, Hid (decide (x = b) = q) := ⟨_, hid rfl⟩
  have HR : Hid (alikeA a b = q) := hid (by
    rw [← HQ.out, ← HXX.out, ← HA1.out, Bool.eq_iff_iff, alikeA_iff, decide_eq_true_eq]
    obtain ⟨p1, p2, p3, p4, p5, p6, p7, p8⟩ := a
    obtain ⟨q1, q2, q3, q4, q5, q6, q7, q8⟩ := b
    simp)
  have HEQ : Hid (∀ W, (Op.equalIn 10000 36 (.agg (atc x)) (.agg (atc b))).run Tryz.prog W = .ok q W) := hid (fun W => by
    have := eq_att x b hox hp W
    rw [HQ.out] at this
    exact this)
  have hb0 : Below w.heap.size w ((w.alloc (.cells (atc a) 36)).alloc (.cells (atc b) 36)) := ((Below.refl _ _).alloc (Nat.le_refl _) _).alloc (by simp) _
  have hA : BoxA ((w.alloc (.cells (atc a) 36)).alloc (.cells (atc b) 36)) w.heap.size a := (Below.heap_alloc _ _ _ (by simp)).trans (heap_alloc_new w _)
  have hB : BoxA ((w.alloc (.cells (atc a) 36)).alloc (.cells (atc b) 36)) (w.heap.size + 1) b := by
    have := BoxA.new (w.alloc (.cells (atc a) 36)) b
    rwa [show (w.alloc (.cells (atc a) 36)).heap.size = w.heap.size + 1 from by simp] at this
  have HTB : Hid (∀ W : World, BoxA W (w.heap.size + 1) b → W.cell? ⟨w.heap.size + 1, 0, none⟩ = some (.int .i64 b.bo) ∧ loadH (.pointer (some ⟨w.heap.size + 1, 69, none⟩)) W = .ok (.value (.agg (hcells b.tg))) W) := hid (fun W h => ⟨h.cells.1, loadH_mid (h.tag hp) hp.tg⟩)
  have HBC : Hid (∀ W : World, BoxA W (w.heap.size + 1) b → loadAtt (.pointer (some ⟨w.heap.size + 1, 0, none⟩)) W = .ok (.value (.agg (atc b))) W) := hid (fun W h => loadAtt_eq h hp)
  have HXC : Hid (∀ W : World, BoxA W w.heap.size x → loadAtt (.pointer (some ⟨w.heap.size, 0, none⟩)) W = .ok (.value (.agg (atc x))) W) := hid (fun W h => loadAtt_eq h hox)
  obtain ⟨C, HC⟩ : ∃ C : Array Value, Hid (atc a = C) := ⟨_, hid rfl⟩
  obtain ⟨D, HD⟩ : ∃ C : Array Value, Hid (atc b = C) := ⟨_, hid rfl⟩
  obtain ⟨X, HX⟩ : ∃ C : Array Value, Hid (atc x = C) := ⟨_, hid rfl⟩
  obtain ⟨T, HT⟩ : ∃ C : Array Value, Hid (hcells b.tg = C) := ⟨_, hid rfl⟩
  have HSB : Hid ((atc a).setIfInBounds 0 (.int .i64 b.bo) = atc a1) := hid (by rw [← HA1.out]; rfl)
  rw [HC.out, HD.out] at hb0 hA hB ⊢
  rw [HX.out, HD.out] at HEQ
  rw [HD.out] at HBC
  rw [HX.out] at HXC
  rw [HT.out] at HTB
  rw [HR.out]
  have HO1 := hid ho1
  have HTL : Hid (b.tg.length = 32) := hid hp.tg
  clear ho hp ho1 hox HR HQ
  go_enter Tryz.func39, Tryz.ntmps39
  go_upto_region 1 with (fail)
  generalize ((w.alloc (.cells C 36)).alloc (.cells D 36)) = w0 at *
  have hbd : Below w0.heap.size w0 w0.drew := (Below.refl _ _).drew
  have HB0 := hid hb0
  have HA := hid hA
  have HB := hid hB
  clear hA hB hb0
  refine wp_region_held_drew (S := fun W => W.cell? ⟨w.heap.size + 1, 0, none⟩ = some (.int .i64 b.bo) ∧ loadH (.pointer (some ⟨w.heap.size + 1, 69, none⟩)) W = .ok (.value (.agg T)) W) (by kernel_rfl) (HTB.out _ (HB.out.keep hbd)) (fun hHeld => ?_)
  refine' tk (i := 0) (v := _) rfl ?_ ?_
  rotate_left
  · (intro W hW; (try dsimp only at hW); go_simp; first | done | with_reducible rfl)
  try simp only [lay]
  refine' tk (i := 1) (v := _) rfl ?_ ?_
  rotate_left
  · (intro W hW; (try dsimp only at hW); obtain ⟨hW1, hW2⟩ := hW; go_simp; first | done | with_reducible rfl)
  try simp only [lay]
  refine' tk (i := 2) (v := _) rfl ?_ ?_
  rotate_left
  · (intro W hW; (try dsimp only at hW); go_simp; first | done | with_reducible rfl)
  try simp only [lay]
  refine' tk (i := 3) (v := _) rfl (fun W hW => hW.2) ?_
  try simp only [lay]
  refine' tk (i := 4) (v := _) rfl ?_ ?_
  rotate_left
  · (intro W hW; (try dsimp only at hW); go_simp; first | done | with_reducible rfl)
  try simp only [lay]
  have k1 := HA.out.free 0
  have k2 := HA.out.cells.1
  have hA2 : BoxA ((w0.setCell ⟨w.heap.size, 0, none⟩ (.int .i64 b.bo)).drew) w.heap.size a1 := by
    have := set_blk HA.out 0 (.int .i64 b.bo)
    rw [HSB.out] at this
    exact this
  have hB2 : BoxA ((w0.setCell ⟨w.heap.size, 0, none⟩ (.int .i64 b.bo)).drew) (w.heap.size + 1) b := blk_other HB.out _ (by omega)
  have hb2 : Below w.heap.size w ((w0.setCell ⟨w.heap.size, 0, none⟩ (.int .i64 b.bo)).drew) := (HB0.out.setCell (Nat.le_refl _) _).drew
  refine call_on (i := 5) rfl (by kernel_rfl) (by rfl) (fun K hK => ?_)
  go_simp
  refine hK.out _ _ (HTB.out _ hB2) (fun hHeld => ?_)
  clear hK K
  try simp only [lay]
  clear k1 k2
  generalize ((w0.setCell ⟨w.heap.size, 0, none⟩ (.int .i64 b.bo)).drew) = w2 at *
  refine' tk (i := 6) (v := _) rfl ?_ ?_
  rotate_left
  · (intro W hW; (try dsimp only at hW); go_simp; first | done | with_reducible rfl)
  try simp only [lay]
  refine call_on (i := 7) rfl (by kernel_rfl) (by rfl) (fun K hK => ?_)
  refine wp_store_tag _ _ rfl rfl (by rw [HT.out]; rfl) hA2 HO1.out HTL.out ?_
  intro w3 hg3 hA3 hs3
  rw [HXX.out] at hA3
  have hB3 : BoxA w3 (w.heap.size + 1) b := (hg3.block _ hB2.lt (fun e => by injection e with e; omega)).trans hB2
  have hb3 : Below w.heap.size w w3 := below_into hb2 (Nat.le_refl _) hg3 hb2.size
  refine hK.out _ _ (HTB.out _ hB3) (fun hHeld => ?_)
  clear hK K
  try simp only [Act.put]
  refine wpAnyH_done (by kernel_rfl) ?_ _
  have l1 := HXC.out w3 hA3
  have l2 := HBC.out w3 hB3
  have e3 := eqAtt_eq HEQ.out w3
  go_wp2_with fail
  go_ret
  exact ⟨rfl, hb3⟩
end Go.Proofs.YtpnejoglkmfleaaGreatDoor
namespace Go.Proofs.YtpnejoglkmfleaaGreatDoor
set_option maxRecDepth 20000
open Go.RowKit
attribute [local go_sem ↓] exec_load_att
def highA (a : AtM) : Int := if a.ki = 3 then a.vi else a.vi - 1
set_option maxHeartbeats 1600000 in
theorem atHigh_any (a : AtM) (w : World) (h1 : 1 ≤ a.vi) (h2 : a.vi ≤ 1099511627776) :
    Calls Tryz.prog 47 #[.agg (atc a)] w fun e w' => e = .returned (.int .i64 (highA a)) ∧ Below w.heap.size w w' := by
  have hb0 : Below w.heap.size w (w.alloc (.cells (atc a) 36)) := (Below.refl _ _).alloc (Nat.le_refl _) _
  have hA := BoxA.new w a
  obtain ⟨C, HC⟩ : ∃ C : Array Value, Hid (atc a = C) := ⟨_, hid rfl⟩
  obtain ⟨q, HQ⟩ : ∃ q : Int, Hid (highA a = q) := ⟨_, hid rfl⟩
  rw [HC.out] at hb0 hA ⊢
  rw [HQ.out]
  go_enter Tryz.func47, Tryz.ntmps47
  go_upto_region 1 with (fail)
  generalize (w.alloc (.cells C 36)) = w0 at *
  obtain ⟨k0, k1, k2, k3⟩ := hA.cells
  clear hA HC
  obtain ⟨bo, ki, vi, ph, ha, pv, pa, tg⟩ := a
  simp only at k0 k1 k2 k3 h1 h2
  have hw : IntKind.i64.wrap (vi - 1) = vi - 1 := by rw [IntKind.wrap_i64]; omega
  have HH := hid (show 1 ≤ vi ∧ vi ≤ 1099511627776 from ⟨h1, h2⟩)
  clear h1 h2
  by_cases h3 : ki = 3
  all_goals
    go_wp2_with fail
    go_ret
    refine ⟨?_, hb0⟩
    refine congrArg (fun b => Ending.returned (Value.int IntKind.i64 b)) ?_
    rw [← HQ.out]
    unfold highA
    simp [h3]
set_option maxHeartbeats 3200000 in
theorem atCheck_ok : AtCheckOk := by
  intro a w ho
  have hb0 : Below w.heap.size w (w.alloc (.cells (atc a) 36)) := (Below.refl _ _).alloc (Nat.le_refl _) _
  have hA := BoxA.new w a
  have HHI : Hid (1 ≤ a.vi → a.vi ≤ 1099511627776 → ∀ W, Calls Tryz.prog 47 #[.agg (atc a)] W fun e w' => e = .returned (.int .i64 (highA a)) ∧ Below W.heap.size W w') := hid (fun h1 h2 W => atHigh_any a W h1 h2)
  obtain ⟨C, HC⟩ : ∃ C : Array Value, Hid (atc a = C) := ⟨_, hid rfl⟩
  obtain ⟨q, HQ⟩ : ∃ q : Int, Hid ((if mayA a = true then (0 : Int) else 1) = q) := ⟨_, hid rfl⟩
  obtain ⟨hi, HHA⟩ : ∃ q : Int, Hid (highA a = q) := ⟨_, hid rfl⟩
  rw [HC.out] at hb0 hA HHI ⊢
  rw [HHA.out] at HHI
  rw [HQ.out]
  go_enter Tryz.func32, Tryz.ntmps32
  go_upto_region 1 with (fail)
  generalize (w.alloc (.cells C 36)) = w0 at *
  have HX : Hid (∀ W : World, Below w0.heap.size w0 W → W.cell? ⟨w.heap.size, 2, none⟩ = some (.int .i64 a.vi) ∧ W.cell? ⟨w.heap.size, 36, none⟩ = some (.int .i64 a.pv) ∧ loadAtt (.pointer (some ⟨w.heap.size, 0, none⟩)) W = .ok (.value (.agg C)) W) := hid (fun W h => by
    have hW := hA.keep h
    have h1 := loadAtt_eq hW ho
    rw [HC.out] at h1
    exact ⟨hW.cells.2.2.1, hW.pv ho, h1⟩)
  obtain ⟨k0, k1, k2, k3⟩ := hA.cells
  have k5 := hA.pv ho
  clear hA HC ho
  obtain ⟨bo, ki, vi, ph, ha, pv, pa, tg⟩ := a
  simp only at k0 k1 k2 k3 k5 HX HHI
  have HM : Hid (q = if nodeB bo = true ∧ ¬ ki < 1 ∧ ¬ 3 < ki ∧ ph = ki ∧ ¬ vi < 1 ∧ ¬ 1099511627776 < vi ∧ ¬ pv < 0 ∧ ¬ hi < pv then 0 else 1) := hid (by
    rw [← HQ.out, ← HHA.out]
    unfold mayA highA nodeB
    grind)
  clear HQ HHA
  go_wp2_with fail
  refine (node_any bo w0).mono ?_
  rintro e w1 ⟨rfl, rfl⟩
  obtain ⟨nb, HN⟩ : ∃ q : Bool, Hid (nodeB bo = q) := ⟨_, hid rfl⟩
  rw [HN.out] at HM ⊢
  clear HN
  cases nb with
  | false =>
    go_wp2_with fail
    go_ret
    exact ⟨by rw [HM.out]; rfl, hb0⟩
  | true =>
    by_cases h1 : ki < 1
    · go_wp2_with fail
      go_ret
      exact ⟨by rw [HM.out, if_neg (by rintro ⟨_, h, _⟩; omega)]; rfl, hb0⟩
    by_cases h2 : 3 < ki
    · go_wp2_with fail
      go_ret
      exact ⟨by rw [HM.out, if_neg (by rintro ⟨_, _, h, _⟩; omega)]; rfl, hb0⟩
    by_cases h3' : ¬ ph = ki
    · have hd : (ph != ki) = true := by simp [h3']
      go_wp2_with fail
      all_goals first
        | (go_ret; exact ⟨by rw [HM.out, if_neg (by rintro ⟨_, _, _, h, _⟩; omega)]; rfl, hb0⟩)
        | skip
    have h3 : ph = ki := Decidable.not_not.1 h3'
    clear h3'
    have HM2 : Hid (q = if ¬ vi < 1 ∧ ¬ 1099511627776 < vi ∧ ¬ pv < 0 ∧ ¬ hi < pv then 0 else 1) := hid (by rw [HM.out]; simp only [true_and, eq_self]; split <;> split <;> first | rfl | (exfalso; omega))
    clear HM
    go_upto_region 3 with (fail)
    clear k0 k1 k3 h1 h2 h3
    by_cases h4 : vi < 1
    · have hd : decide (vi < 1) = true := decide_eq_true h4
      go_quiet (fail)
      go_wp2_with fail
      go_ret
      exact ⟨by rw [HM2.out, if_neg (by rintro ⟨h, _⟩; omega)]; rfl, below_drewN hb0 _⟩
    have hd4 : decide (vi < 1) = false := decide_eq_false h4
    by_cases h5 : 1099511627776 < vi
    · have hd : decide (1099511627776 < vi) = true := decide_eq_true h5
      go_quiet (fail)
      go_wp2_with fail
      go_ret
      exact ⟨by rw [HM2.out, if_neg (by rintro ⟨_, h, _⟩; omega)]; rfl, below_drewN hb0 _⟩
    have hd5 : decide (1099511627776 < vi) = false := decide_eq_false h5
    by_cases h6 : pv < 0
    · have hd : decide (pv < 0) = true := decide_eq_true h6
      go_quiet (fail)
      go_wp2_with fail
      go_ret
      exact ⟨by rw [HM2.out, if_neg (by rintro ⟨_, _, h, _⟩; omega)]; rfl, below_drewN hb0 _⟩
    have hd6 : decide (pv < 0) = false := decide_eq_false h6
    have HI := hid (HHI.out (by omega) (by omega))
    have HM3 : Hid (q = if ¬ hi < pv then 0 else 1) := hid (by rw [HM2.out]; split <;> split <;> first | rfl | (exfalso; omega))
    have hbd : Below w0.heap.size w0 w0.drew := (Below.refl _ _).drew
    clear HM2 HHI k2 k5
    go_region_held3 (fun W => W.cell? ⟨w.heap.size, 2, none⟩ = some (.int .i64 vi) ∧ W.cell? ⟨w.heap.size, 36, none⟩ = some (.int .i64 pv) ∧ loadAtt (.pointer (some ⟨w.heap.size, 0, none⟩)) W = .ok (.value (.agg C)) W)
      (first | (refine HX.out _ hbd) | (refine HX.out _ hb2) | fail)
      (first
        | (go_at_call 47; (with_reducible refine (HI.out _).mono ?_); rintro e w2 ⟨rfl, hb2'⟩; have hb2 : Below w0.heap.size w0 w2 := hbd.trans hb2')
        | fail)
    all_goals
      by_cases h7 : hi < pv
      all_goals
        go_wp2_with fail
        go_ret
        exact ⟨by rw [HM3.out]; simp [h7], hb0.trans (hb2.mono hb0.size)⟩
end Go.Proofs.YtpnejoglkmfleaaGreatDoor
namespace Go.Proofs.YtpnejoglkmfleaaGreatDoor
set_option maxRecDepth 20000
open Go.RowKit
attribute [local go_sem ↓] exec_load_hash
theorem atnum_any (v : Value) (l : List UInt8) (n : Int) (w : World) (hv : Byt w v l) (h0 : 0 ≤ n) (h1 : n < 9223372036854775808) (hs : l.length ≤ 1099511627000) :
    Calls Tryz.prog 50 #[v, .int .i64 n] w fun e w' => ∃ x, e = .returned x ∧ Own w.heap.size w' x (l ++ dg n.toNat) ∧ Below w.heap.size w w' := by
  have hw : IntKind.u64.wrap n = n := wrap_u64 _ (by omega) (by omega)
  go_enter Tryz.func50, Tryz.ntmps50
  go_wp2_with fail
  refine (num_any v l n w hv h0 (by omega) hs).mono ?_
  rintro e w1 ⟨v1, rfl, ho1, hb1⟩
  go_wp2_with fail
  go_ret
  exact ⟨_, rfl, ho1, hb1⟩
set_option maxHeartbeats 3200000 in
theorem attagged_any (a : AtM) (w : World) (ho : a.Ok) (hm : mayA a = true) :
    Calls Tryz.prog 34 #[.agg (atc a)] w fun e w' => ∃ x, e = .returned x ∧ Own w.heap.size w' x (taggedA a) ∧ Below w.heap.size w w' := by
  obtain ⟨h1, h2, h3, h4, h5, h6, h7, h8, h9⟩ := mayA_iff hm
  have hb0 : Below w.heap.size w (w.alloc (.cells (atc a) 36)) := (Below.refl _ _).alloc (Nat.le_refl _) _
  have hA := BoxA.new w a
  obtain ⟨C, HC⟩ : ∃ C : Array Value, Hid (atc a = C) := ⟨_, hid rfl⟩
  obtain ⟨O, HO⟩ : ∃ O : List UInt8, Hid (taggedA a = O) := ⟨_, hid rfl⟩
  rw [HC.out] at hb0 hA ⊢
  rw [HO.out]
  have HOK := hid ho
  have HA := hid hA
  clear hA HC hm ho
  obtain ⟨bo, ki, vi, ph, ha, pv, pa, tg⟩ := a
  simp only at h1 h2 h3 h4 h5 h6 h7 h8 h9
  obtain ⟨k, rfl⟩ := nat_of (i := ki) (by omega)
  obtain ⟨v, rfl⟩ := nat_of (i := vi) (by omega)
  obtain ⟨p, rfl⟩ := nat_of (i := ph) (by omega)
  obtain ⟨q, rfl⟩ := nat_of (i := pv) (by omega)
  have HLK := hid (dg_len10 (n := k) (by omega))
  have HLV := hid (dg_len10 (n := v) (by omega))
  have HLP := hid (dg_len10 (n := p) (by omega))
  have HLQ := hid (dg_len10 (n := q) (by omega))
  have HB : Hid (k < 9223372036854775808 ∧ v < 9223372036854775808 ∧ p < 9223372036854775808 ∧ q < 9223372036854775808) := hid (by omega)
  have hha : ha.length = 32 := HOK.out.ha
  have hpa : pa.length = 32 := HOK.out.pa
  have HHL := hid (show ha.length = 32 ∧ pa.length = 32 from ⟨hha, hpa⟩)
  have HO2 : Hid (O = dg k ++ (dg v ++ (dg p ++ (ha ++ (dg q ++ pa))))) := hid (by rw [← HO.out]; unfold taggedA; simp)
  clear h1 h2 h3 h4 h5 h6 h7 h8 h9 hha hpa HO
  go_enter Tryz.func34, Tryz.ntmps34
  go_upto_region 1 with (fail)
  generalize (w.alloc (.cells C 36)) = w0 at *
  have HX : Hid (∀ W : World, Below w0.heap.size w0 W → W.cell? ⟨w.heap.size, 1, none⟩ = some (.int .i64 (k : Int)) ∧ W.cell? ⟨w.heap.size, 2, none⟩ = some (.int .i64 (v : Int)) ∧ W.cell? ⟨w.heap.size, 3, none⟩ = some (.int .i64 (p : Int)) ∧ W.cell? ⟨w.heap.size, 36, none⟩ = some (.int .i64 (q : Int)) ∧ loadH (.pointer (some ⟨w.heap.size, 4, none⟩)) W = .ok (.value (.agg (hcells ha))) W ∧ loadH (.pointer (some ⟨w.heap.size, 37, none⟩)) W = .ok (.value (.agg (hcells pa))) W) := hid (fun W h => by
    have hW := HA.out.keep h
    exact ⟨hW.cells.2.1, hW.cells.2.2.1, hW.cells.2.2.2, hW.pv HOK.out, loadH_mid hW.hash HOK.out.ha, loadH_mid (hW.phash HOK.out) HOK.out.pa⟩)
  have HB0 := hid hb0
  have d1 := (HX.out w0 (Below.refl _ _)).1
  clear HA hb0
  go_wp2_with fail
  refine (atnum_any _ [] (k : Int) w0 (Byt.nil _) (by omega) (by have := HB.out; omega) (by decide)).mono ?_
  rintro e w1 ⟨v1, rfl, ho1, hb1⟩
  rw [Int.toNat_natCast, List.nil_append] at ho1
  have d2 := (HX.out w1 hb1).2.1
  clear d1
  go_wp2_with fail
  refine (atnum_any _ _ (v : Int) w1 ho1.byt (by omega) (by have := HB.out; omega) (by have := HLK.out; omega)).mono ?_
  rintro e w2 ⟨v2, rfl, ho2, hb2'⟩
  have hb2 := hb1.trans (hb2'.mono hb1.size)
  rw [Int.toNat_natCast] at ho2
  have d3 := (HX.out w2 hb2).2.2.1
  clear d2 hb2'
  go_wp2_with fail
  refine (atnum_any _ _ (p : Int) w2 ho2.byt (by omega) (by have := HB.out; omega) (by rw [List.length_append]; have := HLK.out; have := HLV.out; omega)).mono ?_
  rintro e w3 ⟨v3, rfl, ho3, hb3'⟩
  have hb3 := hb2.trans (hb3'.mono hb2.size)
  rw [Int.toNat_natCast] at ho3
  have d4 := (HX.out w3 hb3).2.2.2.2.1
  clear d3 hb3'
  go_wp2_with fail
  refine (hash_any _ _ ha w3 ho3.byt (by simp only [List.length_append]; have := HLK.out; have := HLV.out; have := HLP.out; omega) HHL.out.1).mono ?_
  rintro e w4 ⟨v4, rfl, ho4, hb4'⟩
  have hb4 := hb3.trans (hb4'.mono hb3.size)
  have d5 := (HX.out w4 hb4).2.2.2.1
  clear d4 hb4'
  go_wp2_with fail
  refine (atnum_any _ _ (q : Int) w4 ho4.byt (by omega) (by have := HB.out; omega) (by simp only [List.length_append]; have := HLK.out; have := HLV.out; have := HLP.out; have := HHL.out.1; omega)).mono ?_
  rintro e w5 ⟨v5, rfl, ho5, hb5'⟩
  have hb5 := hb4.trans (hb5'.mono hb4.size)
  rw [Int.toNat_natCast] at ho5
  have d6 := (HX.out w5 hb5).2.2.2.2.2
  clear d5 hb5'
  go_wp2_with fail
  refine (hash_any _ _ pa w5 ho5.byt (by simp only [List.length_append]; have := HLK.out; have := HLV.out; have := HLP.out; have := HLQ.out; have := HHL.out.1; omega) HHL.out.2).mono ?_
  rintro e w6 ⟨v6, rfl, ho6, hb6'⟩
  have hb6 := hb5.trans (hb6'.mono hb5.size)
  clear d6
  go_wp2_with fail
  go_ret
  refine ⟨v6, rfl, ?_, HB0.out.trans (hb6.mono HB0.out.size)⟩
  rw [HO2.out]
  simp only [List.append_assoc] at ho6
  exact ho6.more (by have := HB0.out.size; have := hb5.size; omega)
end Go.Proofs.YtpnejoglkmfleaaGreatDoor
namespace Go.Proofs.YtpnejoglkmfleaaGreatDoor
set_option maxRecDepth 20000
open Go.RowKit
attribute [local go_sem ↓] exec_load_att exec_alloc_att exec_store_att exec_build_hash
theorem tag_one (i : Int) (d : UInt8) (v0 : Value) (l0 : List UInt8) (gp c : Nat) (w : World) (hg : gp < w.heap.size) (h0 : w.cell? ⟨gp, 0, none⟩ = some v0) (b0 : Byt w v0 l0) (hl : l0.length ≤ 1000000) (hK : Kst 0 w) :
    Calls Tryz.prog 33 #[.int .i64 i, .int .u8 (d.toNat : Int), .slice (some ⟨gp, 0, none⟩) 1 c] w fun e w' => e = .returned (.agg (hcells (Go.Proofs.YtpnejoglkmfleaaGreatDoor.hl 32 (tagF i d l0)))) ∧ Below w.heap.size w w' := by
  have h := tag_any i d [l0] (fun _ => v0) gp 1 c w rfl hg (fun j hj => by
    match j, hj with
    | 0, _ => exact h0) (fun j hj => by
    match j, hj with
    | 0, _ => exact b0) (by simpa using hl) (by omega) hK
  have e : ([l0] : List (List UInt8)).flatten = l0 := by simp
  rw [e, fcells_hl] at h
  exact h
theorem alloc_cell0 (w : World) (x : Value) (T : TypeId) : (w.alloc (.cells #[x] T)).cell? ⟨w.heap.size, 0, none⟩ = some x := by simp
set_option maxHeartbeats 3200000 in
theorem atSign_ok : AtSignOk := by
  intro a w ho hm hK
  obtain ⟨a0, HA0⟩ : ∃ x : AtM, Hid ({ a with tg := z32 } = x) := ⟨_, hid rfl⟩
  have hok0 : a0.Ok := by rw [← HA0.out]; exact ⟨ho.ha, ho.pa, rfl⟩
  have hm0 : mayA a0 = true := by rw [← HA0.out]; exact hm
  have HBO : Hid (a0.bo = a.bo) := hid (by rw [← HA0.out])
  have HTE : Hid (taggedA a0 = taggedA a) := hid (by rw [← HA0.out]; rfl)
  have HSE : Hid ({ a0 with tg := tagA a } = signA a) := hid (by rw [← HA0.out]; rfl)
  have hlen := taggedA_len ho hm
  have HCK : Hid (∀ W, Calls Tryz.prog 32 #[.agg (atc a0)] W fun e w' => e = .returned (.int .i64 0) ∧ Below W.heap.size W w') := hid (fun W => by
    have := atCheck_ok a0 W hok0
    rw [if_pos hm0] at this
    exact this)
  have HTD : Hid (∀ W, Calls Tryz.prog 34 #[.agg (atc a0)] W fun e w' => ∃ x, e = .returned x ∧ Own W.heap.size w' x (taggedA a) ∧ Below W.heap.size W w') := hid (fun W => by
    have := attagged_any a0 W hok0 hm0
    rw [HTE.out] at this
    exact this)
  obtain ⟨C, HC⟩ : ∃ C : Array Value, Hid (atc a = C) := ⟨_, hid rfl⟩
  obtain ⟨C0, HC0⟩ : ∃ C : Array Value, Hid (atc a0 = C) := ⟨_, hid rfl⟩
  obtain ⟨D, HD⟩ : ∃ C : Array Value, Hid (atc (signA a) = C) := ⟨_, hid rfl⟩
  obtain ⟨Z, HZ⟩ : ∃ C : Array Value, Hid (atc atZ = C) := ⟨_, hid rfl⟩
  obtain ⟨N, HN⟩ : ∃ C : Array Value, Hid (hcells z32 = C) := ⟨_, hid rfl⟩
  obtain ⟨T, HT⟩ : ∃ C : Array Value, Hid (hcells (tagA a) = C) := ⟨_, hid rfl⟩
  obtain ⟨L, HL⟩ : ∃ l : List UInt8, Hid (taggedA a = l) := ⟨_, hid rfl⟩
  have HTG : Hid (∀ v gp c W, Below w.heap.size w W → gp < W.heap.size → W.cell? ⟨gp, 0, none⟩ = some v → Byt W v L → Calls Tryz.prog 33 #[.int .i64 a0.bo, .int .u8 1, .slice (some ⟨gp, 0, none⟩) 1 c] W fun e w' => e = .returned (.agg T) ∧ Below W.heap.size W w') := hid (fun v gp c W h h1 h2 h3 => by
    have := tag_one a.bo 1 v L gp c W h1 h2 h3 (by rw [← HL.out]; omega) (hK.below h)
    rw [HBO.out, ← HT.out]
    unfold tagA
    rw [HL.out]
    exact this)
  rw [HC0.out] at HCK HTD
  rw [HL.out] at HTD
  rw [HC.out, HD.out]
  have hbz : ∀ W, buildH W = .ok (.value (.agg N)) W := fun W => by rw [buildH_eq, fcells_nought, ← HN.out]; rfl
  have hal : ∀ W, allocAtt W = .ok (.value (.pointer (some ⟨W.heap.size, 0, none⟩))) (W.alloc (.cells Z 36)) := fun W => by rw [← HZ.out]; exact allocAtt_eq W
  have hr1 := heap2 w (.cells C 36) (.cells Z 36)
  have hb0 : Below w.heap.size w ((w.alloc (.cells C 36)).alloc (.cells Z 36)) := ((Below.refl _ _).alloc (Nat.le_refl _) _).alloc (by simp) _
  have hA : BoxA ((w.alloc (.cells C 36)).alloc (.cells Z 36)) w.heap.size a := by
    unfold BoxA
    rw [HC.out]
    exact heap1 w (.cells C 36) (.cells Z 36)
  have HDS : Hid (D.size = 101 ∧ D.all (·.oneCell') = true) := hid (by rw [← HD.out]; exact ⟨atc_size (signA_ok ho), atc_one _⟩)
  have HZS : Hid (Z.size = 101) := hid (by rw [← HZ.out]; exact atc_size atZ_ok)
  have HTL : Hid ((tagA a).length = 32) := hid (tagA_len a)
  have HO := hid ho
  have HO0 := hid hok0
  have HR1 := hid hr1
  have HA := hid hA
  have HB0 := hid hb0
  have HX : Hid (∀ W : World, BoxA W w.heap.size a0 → W.cell? ⟨w.heap.size, 0, none⟩ = some (.int .i64 a0.bo) ∧ loadAtt (.pointer (some ⟨w.heap.size, 0, none⟩)) W = .ok (.value (.agg C0)) W) := hid (fun W h => by
    refine ⟨h.cells.1, ?_⟩
    have := loadAtt_eq h HO0.out
    rw [HC0.out] at this
    exact this)
  have HLD : Hid (∀ W : World, BoxA W w.heap.size { a0 with tg := tagA a } → loadAtt (.pointer (some ⟨w.heap.size, 0, none⟩)) W = .ok (.value (.agg D)) W) := hid (fun W h => by
    rw [HSE.out] at h
    have := loadAtt_eq h (signA_ok HO.out)
    rw [HD.out] at this
    exact this)
  clear hK ho hm hok0 hm0 hr1 hA hb0 hlen
  go_enter Tryz.func18, Tryz.ntmps18
  go_upto_region 1 with (fail)
  generalize ((w.alloc (.cells C 36)).alloc (.cells Z 36)) = w0 at *
  clear hal
  go_upto_region 2 with (refine wpList_store_tag rfl _ _ rfl rfl (by rw [HN.out]; rfl) HA.out HO.out (show z32.length = 32 from rfl) ?_; intro w1 hg1 hB1 hs1)
  rw [HA0.out] at hB1
  have hr1 := (hg1.block _ (lt_of_block HR1.out) (fun e => by injection e with e; omega)).trans HR1.out
  have hb1 : Below w.heap.size w w1 := below_into HB0.out (Nat.le_refl _) hg1 HB0.out.size
  have HR2 := hid hr1
  have HB1 := hid hb1
  have HA1 := hid hB1
  have l1 := (HX.out w1 hB1).2
  clear hbz hg1 hs1 hB1 hr1 hb1 HB0 HA HR1
  go_wp2_with fail
  refine (HCK.out w1).mono ?_
  rintro e w2 ⟨rfl, hb2'⟩
  have HB2 := hid (HB1.out.trans (hb2'.mono HB1.out.size))
  have HA2 := hid (HA1.out.keep hb2')
  have HR3 := hid ((hb2'.block _ (lt_of_block HR2.out)).trans HR2.out)
  clear l1 hb2'
  go_upto_region 3 with (fail)
  have hbd : Below w2.heap.size w2 w2.drew := (Below.refl _ _).drew
  have HXC : Hid (∀ W, Below w2.heap.size w2 W → W.cell? ⟨w.heap.size, 0, none⟩ = some (.int .i64 a0.bo)) := hid (fun W h => (HX.out W (HA2.out.keep h)).1)
  have l2 := (HX.out w2.drew (HA2.out.keep hbd)).2
  refine wp_region_held_drew (S := fun W => W.cell? ⟨w.heap.size, 0, none⟩ = some (.int .i64 a0.bo)) (by kernel_rfl) (HXC.out _ hbd) (fun hHeld => ?_)
  refine' tk (i := 0) (v := _) rfl ?_ ?_
  rotate_left
  · (intro W hW; (try dsimp only at hW); go_simp; first | done | with_reducible rfl)
  try simp only [lay]
  refine' tk (i := 1) (v := _) rfl ?_ ?_
  rotate_left
  · (intro W hW; (try dsimp only at hW); go_simp; first | done | with_reducible rfl)
  try simp only [lay]
  refine call_on (i := 2) rfl (by kernel_rfl) (by rfl) (fun K hK => ?_)
  go_simp
  refine hK.out _ _ (HXC.out _ hbd) (fun hHeld => ?_)
  clear hK K
  try simp only [lay]
  clear l2
  refine call_on (i := 3) rfl (by kernel_rfl) (by rfl) (fun K hK => ?_)
  go_simp
  refine (HTD.out w2.drew).mono ?_
  rintro e w3 ⟨v3, rfl, ho3, hb3'⟩
  have hb3 := hbd.trans hb3'
  have hv3 := ho3.byt
  obtain ⟨A3, c3, rfl⟩ := hv3.shape
  refine hK.out _ _ (HXC.out _ hb3) (fun hHeld => ?_)
  clear hK K
  try simp only [lay]
  have hb4 : Below w2.heap.size w2 (w3.alloc (.cells #[.slice A3 L.length c3] 73)) := hb3.alloc hb3.size _
  refine call_on (i := 4) rfl (by kernel_rfl) (by rfl) (fun K hK => ?_)
  go_simp
  refine hK.out _ _ (HXC.out _ hb4) (fun hHeld => ?_)
  clear hK K
  try simp only [lay]
  refine call_on (i := 5) rfl (by kernel_rfl) (by rfl) (fun K hK => ?_)
  go_simp
  refine (HTG.out (.slice A3 L.length c3) w3.heap.size 1 (w3.alloc (.cells #[.slice A3 L.length c3] 73)) (HB2.out.trans (hb4.mono HB2.out.size)) (by simp) (alloc_cell0 _ _ _) (hv3.alloc _)).mono ?_
  rintro e w5 ⟨rfl, hb5'⟩
  have hb5 := hb4.trans (hb5'.mono hb4.size)
  refine hK.out _ _ (HXC.out _ hb5) (fun hHeld => ?_)
  clear hK K
  try simp only [lay]
  refine' tk (i := 6) (v := _) rfl ?_ ?_
  rotate_left
  · (intro W hW; (try dsimp only at hW); go_simp; first | done | with_reducible rfl)
  try simp only [lay]
  refine call_on (i := 7) rfl (by kernel_rfl) (by rfl) (fun K hK => ?_)
  refine wp_store_tag _ _ rfl rfl (by rw [HT.out]; rfl) (HA2.out.keep hb5) HO0.out HTL.out ?_
  intro w6 hg6 hA6 hs6
  have hB5 := HB2.out.trans (hb5.mono HB2.out.size)
  have hr6 := (hg6.block _ (Nat.lt_of_lt_of_le (lt_of_block HR3.out) hb5.size) (fun e => by injection e with e; omega)).trans ((hb5.block _ (lt_of_block HR3.out)).trans HR3.out)
  have hB6 : Below w.heap.size w w6 := below_into hB5 (Nat.le_refl _) hg6 hB5.size
  refine hK.out _ _ hA6.cells.1 (fun hHeld => ?_)
  clear hK K
  try simp only [Act.put]
  refine wpAnyH_done (by kernel_rfl) ?_ _
  have l6 := HLD.out w6 hA6
  have hs := storeAtt_eq hr6 HZS.out HDS.out.1 HDS.out.2
  have hlt6 := lt_of_block hr6
  go_wp2_with fail
  refine bodyPost_ret (results_cell_row rfl _ _ _ _ _ (0, 0) _ rfl (setAtt_same hr6) under_att rfl (by rw [size_att, HDS.out.1])) rfl ⟨rfl, ?_⟩
  exact setAtt_below hB6 (Nat.le_succ _)
end Go.Proofs.YtpnejoglkmfleaaGreatDoor
namespace Go.Proofs.YtpnejoglkmfleaaGreatDoor
set_option maxRecDepth 20000
open Go.RowKit
attribute [local go_sem ↓] exec_load_att exec_load_hash
theorem check_hash (i : Int) (d : UInt8) (t : List UInt8) (ht : t.length = 32) (v0 : Value) (l0 : List UInt8) (gp c : Nat) (w : World) (hg : gp < w.heap.size) (h0 : w.cell? ⟨gp, 0, none⟩ = some v0) (b0 : Byt w v0 l0) (hl0 : l0.length ≤ 1000000) (hK : Kst 0 w) :
    Calls Tryz.prog 38 #[.int .i64 i, .int .u8 (d.toNat : Int), .agg (hcells t), .slice (some ⟨gp, 0, none⟩) 1 c] w fun e w' => e = .returned (.bool (nodeB i && decide (t = hl 32 (tagF i d l0)))) ∧ Below w.heap.size w w' := by
  have e : ([l0] : List (List UInt8)).flatten = l0 := by simp
  have h := check_any i d (fun j => t.getD j 0) [l0] (fun _ => v0) gp 1 c w rfl hg (fun j hj => by
    obtain rfl : j = 0 := by omega
    exact h0) (fun j hj => by
    have hj2 : j < 1 := hj
    obtain rfl : j = 0 := by omega
    exact b0) (by rw [e]; omega) (by omega) hK
  have et : hl 32 (fun j => t.getD j 0) = t := by
    apply List.ext_getElem
    · rw [hl_length, ht]
    · intro j h1 h2
      rw [hl_get]
      simp [List.getD, h2]
  rw [e, fcells_hl, et] at h
  unfold checkB sameB at h
  rw [et] at h
  exact h
set_option maxHeartbeats 3200000 in
theorem atRight_ok : AtRightOk := by
  intro a w ho hK
  obtain ⟨m, HM⟩ : ∃ m : Bool, Hid (mayA a = m) := ⟨_, hid rfl⟩
  obtain ⟨q, HQ⟩ : ∃ q : Bool, Hid (decide (a.tg = tagA a) = q) := ⟨_, hid rfl⟩
  have HR : Hid (rightA a = (m && q)) := hid (by unfold rightA; rw [HM.out, HQ.out])
  have HMA : Hid (∀ W, Calls Tryz.prog 32 #[.agg (atc a)] W fun e w' => e = .returned (.int .i64 (if m = true then 0 else 1)) ∧ Below W.heap.size W w') := hid (fun W => by
    have := atCheck_ok a W ho
    rw [HM.out] at this
    exact this)
  have HTD : Hid (m = true → ∀ W, Calls Tryz.prog 34 #[.agg (atc a)] W fun e w' => ∃ x, e = .returned x ∧ Own W.heap.size w' x (taggedA a) ∧ Below W.heap.size W w') := hid (fun h W => attagged_any a W ho (HM.out.trans h))
  obtain ⟨L, HL⟩ : ∃ l : List UInt8, Hid (taggedA a = l) := ⟨_, hid rfl⟩
  have HKC : Hid (m = true → ∀ v gp c W, Below w.heap.size w W → gp < W.heap.size → W.cell? ⟨gp, 0, none⟩ = some v → Byt W v L → Calls Tryz.prog 38 #[.int .i64 a.bo, .int .u8 1, .agg (hcells a.tg), .slice (some ⟨gp, 0, none⟩) 1 c] W fun e w' => e = .returned (.bool q) ∧ Below W.heap.size W w') := hid (fun h v gp c W hb h1 h2 h3 => by
    have hm : mayA a = true := HM.out.trans h
    have hlen := taggedA_len ho hm
    have hn : nodeB a.bo = true := by
      obtain ⟨j1, j2, _⟩ := mayA_iff hm
      unfold nodeB
      exact decide_eq_true ⟨j1, j2⟩
    have := check_hash a.bo 1 a.tg ho.tg v L gp c W h1 h2 h3 (by rw [← HL.out]; omega) (hK.below hb)
    rw [hn, Bool.true_and, ← HL.out] at this
    rw [← HQ.out]
    exact this)
  have hb0 : Below w.heap.size w (w.alloc (.cells (atc a) 36)) := (Below.refl _ _).alloc (Nat.le_refl _) _
  have hA := BoxA.new w a
  obtain ⟨C, HC⟩ : ∃ C : Array Value, Hid (atc a = C) := ⟨_, hid rfl⟩
  obtain ⟨G, HG⟩ : ∃ C : Array Value, Hid (hcells a.tg = C) := ⟨_, hid rfl⟩
  rw [HL.out, HC.out] at HTD
  rw [HC.out] at HMA hb0 hA
  rw [HG.out] at HKC
  rw [HR.out, HC.out]
  have HX : Hid (∀ W : World, BoxA W w.heap.size a → W.cell? ⟨w.heap.size, 0, none⟩ = some (.int .i64 a.bo) ∧ loadAtt (.pointer (some ⟨w.heap.size, 0, none⟩)) W = .ok (.value (.agg C)) W ∧ loadH (.pointer (some ⟨w.heap.size, 69, none⟩)) W = .ok (.value (.agg G)) W) := hid (fun W h => by
    have h1 := loadAtt_eq h ho
    have h2 := loadH_mid (h.tag ho) ho.tg
    rw [HC.out] at h1
    rw [HG.out] at h2
    exact ⟨h.cells.1, h1, h2⟩)
  clear hK ho HL HQ HR
  go_enter Tryz.func23, Tryz.ntmps23
  go_upto_region 1 with (fail)
  generalize (w.alloc (.cells C 36)) = w0 at *
  have HXW := hid (fun W (h : Below w0.heap.size w0 W) => HX.out W (hA.keep h))
  have hbd : Below w0.heap.size w0 w0.drew := (Below.refl _ _).drew
  clear hA
  refine wp_region_held_drew (S := fun W => W.cell? ⟨w.heap.size, 0, none⟩ = some (.int .i64 a.bo) ∧ loadAtt (.pointer (some ⟨w.heap.size, 0, none⟩)) W = .ok (.value (.agg C)) W ∧ loadH (.pointer (some ⟨w.heap.size, 69, none⟩)) W = .ok (.value (.agg G)) W) (by kernel_rfl) (HXW.out _ hbd) (fun hHeld => ?_)
  refine' tk (i := 0) (v := _) rfl (fun W hW => hW.2.1) ?_
  try simp only [lay]
  refine call_on (i := 1) rfl (by kernel_rfl) (by rfl) (fun K hK => ?_)
  go_simp
  refine (HMA.out w0.drew).mono ?_
  rintro e w2 ⟨rfl, hb2'⟩
  have hb2 := hbd.trans hb2'
  refine hK.out _ _ (HXW.out _ hb2) (fun hHeld => ?_)
  clear hK K
  try simp only [lay]
  cases m with
  | false =>
    simp only [Bool.false_eq_true, if_false]
    refine' tk (i := 2) (v := _) rfl ?_ ?_
    rotate_left
    · (intro W hW; (try dsimp only at hW); go_simp; first | done | with_reducible rfl)
    try simp only [lay]
    refine' tk (i := 3) (v := _) rfl ?_ ?_
    rotate_left
    · (intro W hW; (try dsimp only at hW); go_simp; first | done | with_reducible rfl)
    try simp only [lay]
    refine tf (i := 4) rfl ?_
    try simp only [lay]
    refine tf (i := 5) rfl ?_
    try simp only [lay]
    refine tf (i := 6) rfl ?_
    try simp only [lay]
    refine tf (i := 7) rfl ?_
    try simp only [lay]
    refine tf (i := 8) rfl ?_
    try simp only [lay]
    refine tf (i := 9) rfl ?_
    try simp only [lay]
    refine tf (i := 10) rfl ?_
    try simp only [lay]
    refine tf (i := 11) rfl ?_
    try simp only [lay]
    refine' tk (i := 12) (v := _) rfl ?_ ?_
    rotate_left
    · (intro W hW; (try dsimp only at hW); go_simp; first | done | with_reducible rfl)
    try simp only [lay]
    refine' tk (i := 13) (v := _) rfl ?_ ?_
    rotate_left
    · (intro W hW; (try dsimp only at hW); go_simp; first | done | with_reducible rfl)
    try simp only [lay]
    refine wpAnyH_done (by kernel_rfl) ?_ _
    go_wp2_with fail
    go_ret
    exact ⟨rfl, hb0.trans (hb2.mono hb0.size)⟩
  | true =>
    simp only [if_true]
    refine' tk (i := 2) (v := _) rfl ?_ ?_
    rotate_left
    · (intro W hW; (try dsimp only at hW); go_simp; first | done | with_reducible rfl)
    try simp only [lay]
    refine' tk (i := 3) (v := _) rfl ?_ ?_
    rotate_left
    · (intro W hW; (try dsimp only at hW); go_simp; first | done | with_reducible rfl)
    try simp only [lay]
    refine' tk (i := 4) (v := _) rfl ?_ ?_
    rotate_left
    · (intro W hW; (try dsimp only at hW); go_simp; first | done | with_reducible rfl)
    try simp only [lay]
    refine' tk (i := 5) (v := _) rfl ?_ ?_
    rotate_left
    · (intro W hW; (try dsimp only at hW); obtain ⟨hW1, _⟩ := hW; go_simp; first | done | with_reducible rfl)
    try simp only [lay]
    refine' tk (i := 6) (v := _) rfl ?_ ?_
    rotate_left
    · (intro W hW; (try dsimp only at hW); go_simp; first | done | with_reducible rfl)
    try simp only [lay]
    refine' tk (i := 7) (v := _) rfl (fun W hW => hW.2.2) ?_
    try simp only [lay]
    refine' tk (i := 8) (v := _) rfl (fun W hW => hW.2.1) ?_
    try simp only [lay]
    refine call_on (i := 9) rfl (by kernel_rfl) (by rfl) (fun K hK => ?_)
    go_simp
    refine (HTD.out rfl w2).mono ?_
    rintro e w3 ⟨v3, rfl, ho3, hb3'⟩
    have hb3 := hb2.trans (hb3'.mono hb2.size)
    have hv3 := ho3.byt
    obtain ⟨A3, c3, rfl⟩ := hv3.shape
    refine hK.out _ _ (HXW.out _ hb3) (fun hHeld => ?_)
    clear hK K
    try simp only [lay]
    have hb4 : Below w0.heap.size w0 (w3.alloc (.cells #[.slice A3 L.length c3] 73)) := hb3.alloc hb3.size _
    refine call_on (i := 10) rfl (by kernel_rfl) (by rfl) (fun K hK => ?_)
    go_simp
    refine hK.out _ _ (HXW.out _ hb4) (fun hHeld => ?_)
    clear hK K
    try simp only [lay]
    refine call_on (i := 11) rfl (by kernel_rfl) (by rfl) (fun K hK => ?_)
    go_simp
    refine (HKC.out rfl (.slice A3 L.length c3) w3.heap.size 1 (w3.alloc (.cells #[.slice A3 L.length c3] 73)) (hb0.trans (hb4.mono hb0.size)) (by simp) (by simp) (hv3.alloc _)).mono ?_
    rintro e w5 ⟨rfl, hb5'⟩
    have hb5 := hb4.trans (hb5'.mono hb4.size)
    refine hK.out _ _ (HXW.out _ hb5) (fun hHeld => ?_)
    clear hK K
    try simp only [lay]
    refine' tk (i := 12) (v := _) rfl ?_ ?_
    rotate_left
    · (intro W hW; (try dsimp only at hW); go_simp; first | done | with_reducible rfl)
    try simp only [lay]
    refine' tk (i := 13) (v := _) rfl ?_ ?_
    rotate_left
    · (intro W hW; (try dsimp only at hW); go_simp; first | done | with_reducible rfl)
    try simp only [lay]
    refine wpAnyH_done (by kernel_rfl) ?_ _
    go_wp2_with fail
    go_ret
    exact ⟨rfl, hb0.trans (hb5.mono hb0.size)⟩
end Go.Proofs.YtpnejoglkmfleaaGreatDoor
