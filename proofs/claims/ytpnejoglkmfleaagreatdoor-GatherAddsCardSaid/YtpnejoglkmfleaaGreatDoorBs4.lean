/-
  Of OfOne Cuts RefFill RefBits: what each of them says stands at its head.
-/
import Derived.Test.YtpnejoglkmfleaaGreatDoorBs3
namespace Go.Proofs.YtpnejoglkmfleaaGreatDoor
set_option maxRecDepth 20000
open Go.RowKit
def zrun (j : Nat) : Value := if j < 8 then wc 0 else if j < 72 then bcell 0 else .int .u64 0
theorem zero_run : (Tryz.prog.info? 121).bind (·.zero) = some (.agg (fcells 73 zrun)) := by kernel_rfl
theorem size_run : (Tryz.prog.info? 121).map (·.size) = some 73 := by kernel_rfl
theorem build_run (f : Nat → Value) (w : World) : (Instr.build 121 #[(0, .agg (fcells 8 f))]).run Tryz.prog w = .ok (.agg (fcells 73 fun j => if j < 8 then f j else zrun j)) w := by kernel_rfl
theorem wpList_build_run {ops : Array Oper} {rest : List Oper} {o : Oper} {a : Act} {w : World} {Q : Exit → Act → World → Prop} (hgd : o.guard = none) (x : Operand) (ho : o.op = .build 121 #[(0, x)])
    {f : Nat → Value} (hx : a.eval x = .agg (fcells 8 f)) (h : wpList Tryz.prog ops Q rest (a.put o.dst (.agg (fcells 73 fun j => if j < 8 then f j else zrun j))) w) : wpList Tryz.prog ops Q (o :: rest) a w :=
  wpList_plain hgd fun _ hK => by
    unfold Oper.wp execOp
    simp only [ho, List.map_toArray, List.map_cons, List.map_nil, hx, Sem.run_bind, build_run, Sem.run_pure, Result.andThen_ok]
    exact hK _ _ h
theorem wpList_store_run {ops : Array Oper} {rest : List Oper} {o : Oper} {a : Act} {w : World} {Q : Exit → Act → World → Prop} (hgd : o.guard = none) (x y : Operand) (ho : o.op = .store 121 x y)
    {g : Nat} {t : TypeId} {f f' : Nat → Value} (hx : a.eval x = .pointer (some ⟨g, 0, none⟩)) (hy : a.eval y = .agg (fcells 73 f')) (hg : Blk w g 73 f t) (h1 : ∀ i, i < 73 → (f' i).oneCell' = true)
    (hh : ∀ w', w.grownBy w' (some g) → Blk w' g 73 f' t → w'.heap.size = w.heap.size → wpList Tryz.prog ops Q rest (a.put o.dst undef) w') : wpList Tryz.prog ops Q (o :: rest) a w :=
  wpList_store_row hgd _ x y ho g (fcells 73 f') hx hy t (fcells 73 f) hg (by rw [size_run, fcells_size]) (by rw [fcells_size, fcells_size]) (fcells_one h1)
    (hh _ ⟨rfl, rfl, rfl, by simp, fun k _ hk => setRow_other w g k _ (fun e => hk (by simp [e]))⟩ (setRow_heap w g _ _ t _ hg) (by simp))
theorem run_start {w : World} {g : Nat} (h : Blk w g 73 (fun j => if j < 8 then wc (start j) else zrun j) 121) : Run w g [] :=
  ⟨fun _ => 0, h.congr fun i _ => by
    unfold runf zrun
    by_cases h8 : i < 8
    · rw [if_pos h8, if_pos h8]; rfl
    · rw [if_neg h8, if_neg h8, if_neg h8]; rfl, fun j hj => absurd hj (by simp)⟩
theorem Run.bytes {w : World} {g : Nat} {l : List UInt8} (h : Run w g l) : w.cell? ⟨g, 72, none⟩ = some (.int .u64 (l.length : Int)) := by
  obtain ⟨b, hB, _⟩ := h
  rw [hB.cell (i := 72) (by omega)]
  unfold runf
  rw [if_neg (by omega), if_neg (by omega)]
theorem Run.state {w : World} {g : Nat} {l : List UInt8} (h : Run w g l) : ∃ (f : Nat → Value) (σ : Nat → UInt32), Blk w g 73 f 121 ∧ (∀ j, j < 8 → f (0 + j) = .int .u32 (wv (σ j))) ∧ Hid (σ = absb l (l.length / 64)) := by
  obtain ⟨b, hB, _⟩ := h
  refine ⟨_, absb l (l.length / 64), hB, fun j hj => ?_, hid rfl⟩
  unfold runf
  rw [Nat.zero_add, if_pos hj]
  rfl
def partB (f : Nat → UInt8) (m j : Nat) : Value := if j < m then bcell (f j) else bcell 0
theorem partB_set (f : Nat → UInt8) (m j : Nat) : (if j = m then bcell (f m) else partB f m j) = partB f (m + 1) j := by
  unfold partB
  by_cases h : j = m
  · subst h
    rw [if_pos rfl, if_pos (by omega)]
  · rw [if_neg h]
    by_cases h2 : j < m
    · rw [if_pos h2, if_pos (by omega)]
    · rw [if_neg h2, if_neg (by omega)]
set_option maxHeartbeats 1600000 in
theorem of_any (ls : List (List UInt8)) (vs : Nat → Value) (gp n c : Nat) (w : World) (hn : ls.length = n) (hg : gp < w.heap.size) (hc : ∀ j, j < n → w.cell? ⟨gp, j, none⟩ = some (vs j))
    (hv : ∀ j (h : j < ls.length), Byt w (vs j) ls[j]) (hs : ls.flatten.length ≤ 1000000000) (hn2 : n ≤ 1000) (hK : Kst 0 w) :
    Calls Tryz.prog 61 #[.slice (some ⟨gp, 0, none⟩) n c] w fun e w' => e = .returned (.agg (fcells 32 fun j => bcell (sumS ls.flatten j))) ∧ Below w.heap.size w w' := by
  have Hn := hid hn
  clear hn
  go_enter Tryz.func61, Tryz.ntmps61
  go_wp2_with (refine wpList_alloc_arr arrH rfl rfl ?_)
  have hb0 : Below w.heap.size w (w.alloc (.cells (fcells 32 fun _ => bcell 0) 34)) := (Below.refl _ _).alloc (Nat.le_refl _) _
  have hH0 := Blk.new w 32 (fun _ => bcell 0) 34
  go_wp2_with fail
  refine (start_any _).mono ?_
  rintro e w1 ⟨rfl, hb1⟩
  have hbw1 := hb0.trans (hb1.mono (by simp))
  have hH1 := hH0.keep hb1
  have hs1 := hbw1.size
  clear hb0 hH0 hb1
  go_wp2_with (first
    | (refine wpList_build_run rfl (.tmp 10) rfl rfl ?_)
    | (refine wpList_alloc_cells zero_run rfl rfl ?_)
    | (refine wpList_store_run rfl _ _ rfl rfl rfl (Blk.new w1 73 zrun 121) (fun i hi => by unfold zrun; split; rfl; split; rfl; rfl) ?_; intro w2 hg2 hR2 hs2))
  have hr2 := run_start hR2
  have hbw2 : Below w.heap.size w w2 := below_into (hbw1.alloc hs1 _) hs1 hg2 (by simp; omega)
  have hH2 : Blk w2 w.heap.size 32 (fun _ => bcell 0) 34 := (hH1.alloc _).grown hg2 (by have := hH1.lt; simp; omega)
  have hlt1 := hH1.lt
  obtain ⟨G, HG⟩ : ∃ G : Nat, Hid (w1.heap.size = G) := ⟨_, hid rfl⟩
  rw [HG.out] at hr2 hR2 hg2 hlt1 ⊢
  clear hR2 hg2 hs2 hH1 hbw1
  have hGw : w.heap.size < G := hlt1
  have hG1 : G ≠ 0 := by have := hK.1; omega
  try go_frame
  go_wp2_with fail
  go_loopw [14] (fun si wr => ∃ i : Nat, i ≤ n ∧ si = .int .i64 i ∧ Run wr G (ls.take i).flatten ∧ Below w.heap.size w wr ∧ Blk wr w.heap.size 32 (fun _ => bcell 0) 34) (fun si _ => n - (intOf si).toNat)
  case atStart => exact ⟨0, Nat.zero_le _, rfl, by rw [List.take_zero]; exact hr2, hbw2, hH2⟩
  case round =>
    clear hr2 hbw2 hH2
    obtain ⟨i, hi, rfl, hr, hbw, hH⟩ := hrel
    by_cases hlt : i < n
    · have hlt' : i < ls.length := by rw [Hn.out]; exact hlt
      have hci := (hbw.cell (p := ⟨gp, i, none⟩) hg).trans (hc i hlt)
      have hvi := (hv i hlt').below hbw
      have hKr := hK.below hbw
      have hlen : (ls.take i).flatten.length + ls[i].length ≤ 1099511627776 := by
        have h1 : (ls.take i).flatten ++ ls[i] = (ls.take (i + 1)).flatten := by rw [List.take_succ_eq_append_getElem hlt', List.flatten_append, List.flatten_singleton]
        have h2 := congrArg List.length h1
        have h3 := congrArg (fun l => l.flatten.length) (List.take_append_drop (i + 1) ls)
        simp only [List.flatten_append, List.length_append] at h2 h3
        omega
      have hbl : 0 < ls[i].length → (vs i).ownBlock ≠ some G := fun h0 => byt_block (hv i hlt') h0 (by omega)
      have hin : (i : Int) < (n : Int) := by omega
      go_wp2_with (go_at_call 80; refine (put_any G _ _ _ _ hKr hG1 hr hvi hbl hlen).mono ?_; rintro e w3 ⟨rfl, hr3, hg3⟩)
      go_roundw
      case rel =>
        refine ⟨i + 1, by omega, by go_num, ?_, below_into hbw (by omega) hg3 hbw.size, hH.grown hg3 (fun e => by have := Option.some.inj e; omega)⟩
        rw [List.take_succ_eq_append_getElem hlt', List.flatten_append, List.flatten_singleton]
        exact hr3
      case measure => simp [intOf]; omega
    · have hin : ¬ (i : Int) < (n : Int) := by omega
      have hrA : Run wr G ls.flatten := by
        have e : ls.take i = ls := List.take_of_length_le (by have := Hn.out; omega)
        rw [e] at hr
        exact hr
      clear hr hc hv
      obtain ⟨L, HL⟩ : ∃ L : Nat, Hid (ls.flatten.length = L) := ⟨_, hid rfl⟩
      have hcell := hrA.bytes
      rw [HL.out] at hcell hs
      have hltG := hrA.lt
      go_wp2_with fail
      refine (filling_any L _ (by omega)).mono ?_
      rintro e w4 ⟨v4, rfl, hown4, hb4⟩
      have hbw4 := hbw.trans (hb4.mono hbw.size)
      have hr4 := hrA.keep hb4
      have hH4 := hH.keep hb4
      have hK4 := hK.below hbw4
      have hne4 : 0 < (tailS L).length → v4.ownBlock ≠ some G := fun _ e => by
        have := (World.ownsRow.lt hown4 G e).1
        omega
      clear hcell
      go_wp2_with fail
      refine (put_any G _ _ _ _ hK4 hG1 hr4 hown4.byt hne4 (by rw [tailS_length, HL.out]; have := noughts_le L; omega)).mono ?_
      rintro e w5 ⟨rfl, hr5, hg5⟩
      have hbw5 : Below w.heap.size w w5 := below_into hbw4 (by omega) hg5 hbw4.size
      have hH5 := hH4.grown hg5 (fun e => by have := Option.some.inj e; omega)
      obtain ⟨F, σ, hB5, e5, Hσ⟩ := hr5.state
      clear hr4 hH4 hK4 hown4 hb4 hbw4 hg5 hrA hH hbw hne4
      have hs5 := hbw5.size
      have hltG5 := hB5.lt
      have hB6 := hB5.alloc (.cells (fcells 32 fun _ => bcell 0) 34)
      go_wp2_with (first
        | (refine wpList_alloc_arr arrH rfl rfl ?_)
        | (refine wpList_load_arr_mid arrS rfl (.tmp 25) rfl rfl hB6 (by omega) e5 ?_))
      have hσ : ∀ i, sumS ls.flatten i = byteOf (σ (i / 4)) (i % 4) := fun i => by
        unfold sumS
        rw [Hσ.out]
        unfold fillS
        rw [HL.out]
      clear e5 hB6 hB5 Hσ
      have hH6 : Blk (w5.alloc (.cells (fcells 32 fun _ => bcell 0) 34)) w.heap.size 32 (fun _ => bcell 0) 34 := hH5.alloc _
      have hQ6 : Blk (w5.alloc (.cells (fcells 32 fun _ => bcell 0) 34)) w5.heap.size 32 (fun _ => bcell 0) 34 := Blk.new w5 _ _ _
      have hbw6 : Below w.heap.size w (w5.alloc (.cells (fcells 32 fun _ => bcell 0) 34)) := hbw5.alloc hs5 _
      obtain ⟨Q, HQ⟩ : ∃ Q : Nat, Hid (w5.heap.size = Q) := ⟨_, hid rfl⟩
      rw [HQ.out] at hQ6 ⊢
      have hQw : w.heap.size < Q := by have := HQ.out; omega
      generalize w5.alloc (.cells (fcells 32 fun _ => bcell 0) 34) = w6 at *
      obtain ⟨SA, HSA⟩ : ∃ SA : Value, Hid (Value.agg (fcells 8 fun j => .int .u32 (wv (σ j))) = SA) := ⟨_, hid rfl⟩
      rw [HSA.out]
      have hidx : ∀ (i : Nat), i < 8 → ∀ w, (Instr.index 118 SA (.int .i64 (i : Int))).run Tryz.prog w = .ok (.int .u32 (wv (σ i))) w := fun i hi w => by
        rw [← HSA.out]
        exact arrS.run_index _ hi w
      clear hH5 hbw5 hs5 hltG5
      try go_frame
      have HS := hid hσ
      clear hσ
      go_wp2_with fail
      go_loopw [27] (fun si wr => ∃ i : Nat, i ≤ 8 ∧ si = .int .i64 i ∧ Below w.heap.size w wr ∧ Blk wr w.heap.size 32 (fun _ => bcell 0) 34 ∧ Blk wr Q 32 (partB (sumS ls.flatten) (4 * i)) 34) (fun si _ => 8 - (intOf si).toNat)
      case atStart => exact ⟨0, by omega, rfl, hbw6, hH6, hQ6.congr fun i _ => by simp [partB]⟩
      case round =>
        clear hbw6 hH6 hQ6
        obtain ⟨m, hm, rfl, hbw, hH, hQ⟩ := hrel
        by_cases hlt : m < 8
        · have hx := hidx m hlt
          have hm8 : (m : Int) < 8 := by omega
          clear hidx
          obtain ⟨wo, rfl⟩ : ∃ wo : World, wo = wr := ⟨_, rfl⟩
          go_wp2_with fail
          go_loopw [31] (fun sj wr => ∃ j : Nat, j ≤ 4 ∧ sj = .int .i64 j ∧ Below w.heap.size w wr ∧ Blk wr w.heap.size 32 (fun _ => bcell 0) 34 ∧ Blk wr Q 32 (partB (sumS ls.flatten) (4 * m + j)) 34) (fun sj _ => 4 - (intOf sj).toNat)
          case atStart => exact ⟨0, by omega, rfl, hbw, hH, hQ⟩
          case round =>
            clear hbw hH hQ
            obtain ⟨j, hj, rfl, hbw, hH, hQ⟩ := hrel
            by_cases hlt2 : j < 4
            · have hj4 : (j : Int) < 4 := by omega
              have hsh : 0 ≤ 24 - 8 * (j : Int) := by omega
              have hin2 : 4 * (m : Int) + (j : Int) < 32 := by omega
              have kc := hQ.cell (i := 4 * m + j) (by omega)
              have fc := hQ.free (4 * m + j)
              have hval : Value.int .u8 (wv (σ m) / 2 ^ (24 - 8 * j) % 256) = bcell (sumS ls.flatten (4 * m + j)) := by
                rw [HS.out, show (4 * m + j) / 4 = m from by omega, show (4 * m + j) % 4 = j from by omega]
                unfold bcell byteOf
                rw [u8_ofNat]
                unfold wv
                simp
              have HV := hid hval
              clear hval
              go_wp2_with fail
              go_roundw
              case rel =>
                refine ⟨j + 1, by omega, by go_num, below_set hbw (g := Q) (by omega) _ _, hH.apart _ _ (by omega), (hQ.set (i := 4 * m + j) (by omega) _).congr fun q _ => ?_⟩
                rw [HV.out, ← Nat.add_assoc, ← partB_set]
              case measure => simp [intOf]; omega
            · have hj4 : ¬ (j : Int) < 4 := by omega
              go_wp2_with fail
              go_roundw
              case rel => exact ⟨m + 1, by omega, by go_num, hbw, hH, by rw [show 4 * (m + 1) = 4 * m + j from by omega]; exact hQ⟩
              case measure => simp [intOf]; omega
        · have hm8 : ¬ (m : Int) < 8 := by omega
          have hQ2 : Blk wr Q 32 (fun j => bcell (sumS ls.flatten j)) 34 := hQ.congr fun q hq => if_pos (by omega)
          clear hidx
          go_wp2_with (first
            | (refine wpList_load_arr arrH rfl _ rfl rfl hQ2 ?_)
            | (refine wpList_store_arr arrH rfl _ _ rfl rfl rfl hH (fun _ _ => rfl) ?_; intro w9 hg9 hA9 hs9))
          refine bodyPost_ret (arrH.result rfl _ _ rfl hA9) rfl ⟨rfl, ?_⟩
          exact below_into hbw (Nat.le_refl _) hg9 hbw.size
end Go.Proofs.YtpnejoglkmfleaaGreatDoor
namespace Go.Proofs.YtpnejoglkmfleaaGreatDoor
set_option maxRecDepth 20000
open Go.RowKit
theorem of_one (v : Value) (l : List UInt8) (gp c : Nat) (w : World) (hg : gp < w.heap.size) (h0 : w.cell? ⟨gp, 0, none⟩ = some v) (b0 : Byt w v l) (hs : l.length ≤ 1000000) (hK : Kst 0 w) :
    Calls Tryz.prog 61 #[.slice (some ⟨gp, 0, none⟩) 1 c] w fun e w' => e = .returned (.agg (fcells 32 fun j => bcell (sumS l j))) ∧ Below w.heap.size w w' := by
  have h := of_any [l] (fun _ => v) gp 1 c w rfl hg (fun j hj => by
    obtain rfl : j = 0 := by omega
    exact h0) (fun j hj => by
    have hj2 : j < 1 := hj
    obtain rfl : j = 0 := by omega
    exact b0) (by simp; omega) (by omega) hK
  have e : ([l] : List (List UInt8)).flatten = l := by simp
  rw [e] at h
  exact h
def blockOf (l : List UInt8) (k j : Nat) : UInt8 := l.getD (64 * k + j) 0
end Go.Proofs.YtpnejoglkmfleaaGreatDoor
namespace Go.Proofs.YtpnejoglkmfleaaGreatDoor
set_option maxRecDepth 20000
open Go.RowKit
def tyHide (T : TypeId) (_ : Nat) : TypeId := T
theorem exec_load_hide (T : TypeId) (k : Nat) (r : Operand → Value) (x : Operand) (dst : Option Tmp) (ty : TypeId) (pos : String) (after : Array Edge) (guard : Option (Nat × Bool)) (w : World) :
    Sem.run Tryz.prog (execOp r { dst := dst, op := .load (tyHide T k) x, type := ty, pos := pos, after := after, guard := guard }) w = loadA (tyHide T k) (r x) w := rfl
theorem tyHide_load {T : TypeId} {k : Nat} (h : T = k) (x : Operand) : Op.load k x = Op.load (tyHide T k) x := by
  unfold tyHide
  rw [h]
theorem loadA_hide {T k : TypeId} {E : TypeId} {n : Nat} {z : Value} (h : T = k) (H : ArrT k E n z) {w : World} {g N o : Nat} {f f' : Nat → Value} {t : TypeId} (hg : Blk w g N f t) (ho : o + n ≤ N) (e : ∀ j, j < n → f (o + j) = f' j) :
    loadA (tyHide T k) (.pointer (some ⟨g, o, none⟩)) w = .ok (.value (.agg (fcells n f'))) w := by
  unfold tyHide
  rw [h]
  exact loadA_eq H hg ho e
theorem of_two (v0 v1 : Value) (l0 l1 : List UInt8) (gp c : Nat) (w : World) (hg : gp < w.heap.size) (h0 : w.cell? ⟨gp, 0, none⟩ = some v0) (h1 : w.cell? ⟨gp, 1, none⟩ = some v1) (b0 : Byt w v0 l0) (b1 : Byt w v1 l1)
    {l : List UInt8} (hl : l0 ++ l1 = l) (hs : l.length ≤ 1000000) (hK : Kst 0 w) :
    Calls Tryz.prog 61 #[.slice (some ⟨gp, 0, none⟩) 2 c] w fun e w' => e = .returned (.agg (fcells 32 fun j => bcell (sumS l j))) ∧ Below w.heap.size w w' := by
  have e : ([l0, l1] : List (List UInt8)).flatten = l := by simp [hl]
  have h := of_any [l0, l1] (fun j => if j = 0 then v0 else v1) gp 2 c w rfl hg (fun j hj => by
    obtain rfl | rfl : j = 0 ∨ j = 1 := by omega
    · exact h0
    · exact h1) (fun j hj => by
    have hj2 : j < 2 := hj
    obtain rfl | rfl : j = 0 ∨ j = 1 := by omega
    · exact b0
    · exact b1) (by rw [e]; omega) (by omega) hK
  rw [e] at h
  exact h
end Go.Proofs.YtpnejoglkmfleaaGreatDoor
namespace Go.Proofs.YtpnejoglkmfleaaGreatDoor
set_option maxRecDepth 20000
open Go.RowKit
theorem byt_eight (w : World) (c0 c1 c2 c3 c4 c5 c6 c7 : UInt8) (x0 x1 x2 x3 x4 x5 x6 x7 : Int) (h0 : x0 = (c0.toNat : Int)) (h1 : x1 = (c1.toNat : Int)) (h2 : x2 = (c2.toNat : Int)) (h3 : x3 = (c3.toNat : Int)) (h4 : x4 = (c4.toNat : Int)) (h5 : x5 = (c5.toNat : Int)) (h6 : x6 = (c6.toNat : Int)) (h7 : x7 = (c7.toNat : Int)) : Byt (w.alloc (.cells #[.int .u8 x0, .int .u8 x1, .int .u8 x2, .int .u8 x3, .int .u8 x4, .int .u8 x5, .int .u8 x6, .int .u8 x7] 5)) (.slice (some ⟨w.heap.size, 0, none⟩) 8 8) [c0, c1, c2, c3, c4, c5, c6, c7] := by
  subst h0 h1 h2 h3 h4 h5 h6 h7
  refine ⟨_, 8, rfl, Nat.le_refl _, by unfold maxLen; omega, fun _ => ⟨w.heap.size, 0, rfl, by simp, fun j hj => ?_⟩⟩
  have B := (Blk.new w 8 (fun j => bcell ([c0, c1, c2, c3, c4, c5, c6, c7].getD j 0)) 5).cell (i := j) hj
  have e : (fcells 8 fun j => bcell ([c0, c1, c2, c3, c4, c5, c6, c7].getD j 0)) = #[.int .u8 (c0.toNat : Int), .int .u8 (c1.toNat : Int), .int .u8 (c2.toNat : Int), .int .u8 (c3.toNat : Int), .int .u8 (c4.toNat : Int), .int .u8 (c5.toNat : Int), .int .u8 (c6.toNat : Int), .int .u8 (c7.toNat : Int)] := rfl
  rw [e] at B
  obtain rfl | rfl | rfl | rfl | rfl | rfl | rfl | rfl : j = 0 ∨ j = 1 ∨ j = 2 ∨ j = 3 ∨ j = 4 ∨ j = 5 ∨ j = 6 ∨ j = 7 := by simp at hj; omega
  all_goals first | exact B | (rw [addr_add]; exact B) | (simp [Addr.add] at B ⊢; exact B) | simpa using B
theorem be8_list (m : Nat) : be8 m 8 = [UInt8.ofNat (m / 72057594037927936), UInt8.ofNat (m / 281474976710656), UInt8.ofNat (m / 1099511627776), UInt8.ofNat (m / 4294967296), UInt8.ofNat (m / 16777216), UInt8.ofNat (m / 65536), UInt8.ofNat (m / 256), UInt8.ofNat m] := by simp [be8]
set_option maxHeartbeats 3200000 in
theorem refFill_any (v : Value) (l : List UInt8) (w : World) (hv : Byt w v l) (hs : l.length ≤ 1000000) :
    Calls Tryz.prog 92 #[v] w fun e w' => ∃ x, e = .returned x ∧ Own w.heap.size w' x (fillS l) ∧ Below w.heap.size w w' := by
  obtain ⟨A, c, rfl⟩ := hv.shape
  obtain ⟨L, HL⟩ : ∃ L : Nat, Hid (l.length = L) := ⟨_, hid rfl⟩
  rw [HL.out] at hs hv ⊢
  have hnl := noughts_le L
  go_enter Tryz.func92, Tryz.ntmps92
  have hown0 : Own w.heap.size (w.alloc (.cells #[] 5)) (.slice (some ⟨w.heap.size, 0, none⟩) 0 0) [] :=
    ⟨by simp [bcells], .inr ⟨w.heap.size, 0, #[], rfl, Nat.le_refl _, by rw [heap_alloc_new], Nat.le_refl _, by unfold maxLen; omega, rfl, by simp [bcells]⟩⟩
  have hb0 : Below w.heap.size w (w.alloc (.cells #[] 5)) := (Below.refl _ _).alloc (Nat.le_refl _) _
  have hv0 := hv.below hb0
  have hs0 := hb0.size
  have hr1 : ([] : List UInt8).length + l.length ≤ 140737488355328 := by rw [HL.out]; simp; omega
  have hr2 : ([] ++ l : List UInt8).length + ([128] : List UInt8).length ≤ 140737488355328 := by rw [List.nil_append, HL.out, List.length_singleton]; omega
  go_wp2_with (first
    | (at_builtin; refine wpList_append_byt rfl (.tmp 5) (.tmp 6) rfl rfl rfl hown0 hv0 hr1 hs0 ?_; intro v1 w1 hown1 hg1 hv1; have hb1 : Below w.heap.size w w1 := hb0.grown hg1 hs0 (fun k hk => (World.ownsRow.lt hown0 k hk).1); have hs1 := hb1.size; have hs2 : w.heap.size ≤ (w1.alloc (.cells #[.int .u8 128] 5)).heap.size := by simp; omega)
    | (at_builtin; refine wpList_append_byt rfl (.tmp 7) (.tmp 8) rfl rfl rfl (hown1.alloc _) (byt_one _ _ 128 rfl) hr2 hs2 ?_; intro v2 w2 hown2 hg2 hv2))
  have hb2 : Below w.heap.size w w2 := (hb1.alloc hs1 _).grown hg2 hs2 (fun k hk => (World.ownsRow.lt hown1 k hk).1)
  have e2 : ([] ++ l ++ [128] : List UInt8) = l ++ 128 :: List.replicate 0 0 := by simp
  rw [e2] at hown2
  obtain ⟨A2, c2, rfl⟩ := hown2.byt.shape
  have hl2 : (l ++ 128 :: List.replicate 0 0 : List UInt8).length = L + 1 := by simp; exact HL.out
  rw [hl2] at hown2 ⊢
  clear hg2 hl2 e2 hg1 hown1 hb1 hs1 hs2 hown0 hb0 hv0 hs0 hr1 hr2 hv2 hv1
  try go_frame
  go_wp2_with fail
  go_loopw [3] (fun v wr => ∃ (z m : Nat) (A : Option Addr) (c : Nat), z ≤ noughts L ∧ Hid (m = L + z + 1) ∧ v = .slice A m c ∧ Hid (Own w.heap.size wr (.slice A m c) (l ++ 128 :: List.replicate z 0)) ∧ Below w.heap.size w wr) (fun v _ => L + 100 - slen2 v)
  case atStart => exact ⟨0, L + 1, A2, c2, Nat.zero_le _, hid rfl, rfl, hid hown2, hb2⟩
  case round =>
    clear hown2 hb2
    obtain ⟨z, m, A3, c3, hz, HM, rfl, HO, hbw⟩ := hrel
    have hbs := hbw.size
    have hm : m ≤ L + 100 := by have := HM.out; omega
    have hlen : (l ++ 128 :: List.replicate z 0 : List UInt8).length + ([0] : List UInt8).length ≤ 140737488355328 := by
      simp
      have := HL.out
      omega
    by_cases hlt : z < noughts L
    · have ht : ((m : Int) % 64 != 56) = true := by
        rw [bne_iff_ne]
        have := HM.out
        unfold noughts at hlt
        omega
      go_wp2_with (at_builtin; refine wpList_append_byt rfl (.tmp 14) (.tmp 15) rfl rfl rfl (HO.out.alloc _) (byt_one _ _ 0 rfl) hlen (by simp; omega) ?_; intro v4 w4 hown4 hg4 _)
      have hb4 : Below w.heap.size w w4 := (hbw.alloc hbs _).grown hg4 (by simp; omega) (fun k hk => (World.ownsRow.lt HO.out k hk).1)
      have hl : (l ++ 128 :: List.replicate z 0 : List UInt8) ++ [0] = l ++ 128 :: List.replicate (z + 1) 0 := by
        rw [List.replicate_succ', List.append_assoc, List.cons_append]
      rw [hl] at hown4
      clear hl hg4
      obtain ⟨A4, c4, rfl⟩ := hown4.byt.shape
      have hl4 : (l ++ 128 :: List.replicate (z + 1) 0 : List UInt8).length = m + 1 := by simp; have := HM.out; have := HL.out; omega
      rw [hl4] at hown4 ⊢
      have HO4 := hid hown4
      clear hl4 hown4 hlen
      try go_frame
      go_roundw
      case rel => exact ⟨z + 1, m + 1, A4, c4, by omega, hid (by have := HM.out; omega), rfl, HO4, hb4⟩
      case measure => show L + 100 - (m + 1) < L + 100 - m; have := HM.out; omega
    · have ht : ((m : Int) % 64 != 56) = false := by
        rw [bne_eq_false_iff_eq]
        have := HM.out
        unfold noughts at hlt hz
        omega
      have HO3 : Hid (Own w.heap.size wr (.slice A3 m c3) (l ++ 128 :: List.replicate (noughts L) 0)) := by
        have e : z = noughts L := by omega
        have := HO.out
        rw [e] at this
        exact hid this
      clear HO hlen
      have Q0 : Hid ((L : Int) * 8 / 72057594037927936 = ((UInt8.ofNat (L * 8 / 72057594037927936)).toNat : Int)) := hid (by rw [u8_ofNat]; omega)
      have Q1 : Hid ((L : Int) * 8 / 281474976710656 = ((UInt8.ofNat (L * 8 / 281474976710656)).toNat : Int)) := hid (by rw [u8_ofNat]; omega)
      have Q2 : Hid ((L : Int) * 8 / 1099511627776 = ((UInt8.ofNat (L * 8 / 1099511627776)).toNat : Int)) := hid (by rw [u8_ofNat]; omega)
      have Q3 : Hid ((L : Int) * 8 / 4294967296 = ((UInt8.ofNat (L * 8 / 4294967296)).toNat : Int)) := hid (by rw [u8_ofNat]; omega)
      have Q4 : Hid ((L : Int) * 8 / 16777216 = ((UInt8.ofNat (L * 8 / 16777216)).toNat : Int)) := hid (by rw [u8_ofNat]; omega)
      have Q5 : Hid ((L : Int) * 8 / 65536 = ((UInt8.ofNat (L * 8 / 65536)).toNat : Int)) := hid (by rw [u8_ofNat]; omega)
      have Q6 : Hid ((L : Int) * 8 / 256 % 256 = ((UInt8.ofNat (L * 8 / 256)).toNat : Int)) := hid (by rw [u8_ofNat]; omega)
      have Q7 : Hid ((L : Int) * 8 % 256 = ((UInt8.ofNat (L * 8)).toNat : Int)) := hid (by rw [u8_ofNat]; omega)
      have hlen5 : (l ++ 128 :: List.replicate (noughts L) 0 : List UInt8).length + (be8 (L * 8) 8).length ≤ 140737488355328 := by
        rw [be8_length]
        simp
        have := HL.out
        omega
      have he : ∀ w' : World, Byt (w'.alloc (.cells #[.int .u8 ((L : Int) * 8 / 72057594037927936), .int .u8 ((L : Int) * 8 / 281474976710656), .int .u8 ((L : Int) * 8 / 1099511627776), .int .u8 ((L : Int) * 8 / 4294967296), .int .u8 ((L : Int) * 8 / 16777216), .int .u8 ((L : Int) * 8 / 65536), .int .u8 ((L : Int) * 8 / 256 % 256), .int .u8 ((L : Int) * 8 % 256)] 5)) (.slice (some ⟨w'.heap.size, 0, none⟩) 8 8) (be8 (L * 8) 8) := fun w' => by
        rw [be8_list]
        exact byt_eight w' _ _ _ _ _ _ _ _ _ _ _ _ _ _ _ _ Q0.out Q1.out Q2.out Q3.out Q4.out Q5.out Q6.out Q7.out
      clear Q0 Q1 Q2 Q3 Q4 Q5 Q6 Q7
      have HE := hid he
      clear he
      go_wp2_with (at_builtin; refine wpList_append_byt rfl (.tmp 21) (.tmp 45) rfl rfl rfl (HO3.out.alloc _) (HE.out _) hlen5 (by simp; omega) ?_; intro v5 w5 hown5 hg5 _)
      go_ret
      have e : fillS l = l ++ 128 :: List.replicate (noughts L) 0 ++ be8 (L * 8) 8 := by
        rw [← HL.out, List.append_assoc]
        rfl
      rw [e]
      exact ⟨_, rfl, hown5, (hbw.alloc hbs _).grown hg5 (by simp; omega) (fun k hk => (World.ownsRow.lt HO3.out k hk).1)⟩
end Go.Proofs.YtpnejoglkmfleaaGreatDoor
namespace Go.Proofs.YtpnejoglkmfleaaGreatDoor
set_option maxRecDepth 20000
open Go.RowKit
theorem rr_zero (x : UInt32) : rr x 0 = x := by
  unfold rr
  apply UInt32.toNat_inj.1
  have := x.toNat_lt
  rw [UInt32.toNat_ofNat', Nat.pow_zero, Nat.div_one, Nat.mod_one, Nat.zero_mul, Nat.add_zero, Nat.mod_eq_of_lt (by omega)]
theorem sr_zero (x : UInt32) : sr x 0 = x := by
  unfold sr
  apply UInt32.toNat_inj.1
  have := x.toNat_lt
  rw [UInt32.toNat_ofNat', Nat.pow_zero, Nat.div_one, Nat.mod_eq_of_lt (by omega)]
theorem rr_lt' (x : UInt32) (n : Nat) (h1 : n ≤ 31) : x.toNat / 2 ^ n + x.toNat % 2 ^ n * 2 ^ (32 - n) < 4294967296 := by
  by_cases h0 : 1 ≤ n
  · exact (rr_lt x n h0 h1).1
  · obtain rfl : n = 0 := by omega
    have := x.toNat_lt
    rw [Nat.pow_zero, Nat.div_one, Nat.mod_one, Nat.zero_mul, Nat.add_zero]
    omega
theorem rr_succ (x : UInt32) (n : Nat) (h : n ≤ 30) : wv (rr x n) / 2 + wv (rr x n) % 2 * 2147483648 = wv (rr x (n + 1)) := by
  have e1 := rr_lt' x n (by omega)
  have e2 := rr_lt' x (n + 1) (by omega)
  unfold rr
  rw [wv_of _ e1, wv_of _ e2]
  clear e1 e2
  have hq : x.toNat / 2 ^ (n + 1) = x.toNat / 2 ^ n / 2 := by rw [Nat.pow_succ, Nat.div_div_eq_div_mul]
  have hr : x.toNat % 2 ^ (n + 1) = x.toNat % 2 ^ n + x.toNat / 2 ^ n % 2 * 2 ^ n := by rw [Nat.pow_succ, Nat.mod_mul, Nat.mul_comm (2 ^ n)]
  have hp : (2 : Nat) ^ (32 - n) = 2 * 2 ^ (31 - n) := by rw [show 32 - n = 31 - n + 1 from by omega, Nat.pow_succ, Nat.mul_comm]
  have hb : (2 : Nat) ^ n * 2 ^ (31 - n) = 2147483648 := by rw [← Nat.pow_add, show n + (31 - n) = 31 from by omega]
  rw [hq, hr, hp, show 32 - (n + 1) = 31 - n from by omega, Nat.add_mul, Nat.mul_assoc, hb]
  generalize x.toNat / 2 ^ n = q
  generalize x.toNat % 2 ^ n = r
  generalize (2 : Nat) ^ (31 - n) = B
  rw [Nat.mul_left_comm r 2 B]
  generalize r * B = t
  omega
theorem sr_succ (x : UInt32) (n : Nat) : wv (sr x n) / 2 = wv (sr x (n + 1)) := by
  have hx := x.toNat_lt
  have h1 := Nat.div_le_self x.toNat (2 ^ n)
  have h2 := Nat.div_le_self x.toNat (2 ^ (n + 1))
  unfold sr
  rw [wv_of _ (by omega), wv_of _ (by omega), Nat.pow_succ, ← Nat.div_div_eq_div_mul]
  omega
set_option maxHeartbeats 800000 in
theorem rturn_any (x : UInt32) (n : Nat) (hn : n ≤ 31) (w : World) : Calls Tryz.prog 100 #[.int .u32 (wv x), .int .i64 (n : Int)] w fun e w' => e = .returned (.int .u32 (wv (rr x n))) ∧ w = w' := by
  go_enter Tryz.func100, Tryz.ntmps100
  go_wp2
  go_loop [0, 5] (fun sx si => ∃ i : Nat, i ≤ n ∧ si = .int .i64 i ∧ sx = .int .u32 (wv (rr x i))) (fun _ si => n - (intOf si).toNat)
  case atStart => exact ⟨0, Nat.zero_le _, rfl, by rw [rr_zero]⟩
  case round =>
    obtain ⟨i, hi, rfl, rfl⟩ := hrel
    obtain ⟨b0, b1⟩ := wv_lt (rr x i)
    by_cases hlt : i < n
    · have hlt2 : (i : Int) < (n : Int) := by omega
      have HS := hid (rr_succ x i (by omega))
      go_wp2
      go_round
      case rel => exact ⟨i + 1, by omega, by go_num, by rw [HS.out]⟩
      case measure => simp [intOf]; omega
    · have hlt2 : ¬ (i : Int) < (n : Int) := by omega
      obtain rfl : i = n := by omega
      go_wp2
      go_ret
      exact ⟨rfl, rfl⟩
set_option maxHeartbeats 800000 in
theorem rshift_any (x : UInt32) (n : Nat) (hn : n ≤ 31) (w : World) : Calls Tryz.prog 101 #[.int .u32 (wv x), .int .i64 (n : Int)] w fun e w' => e = .returned (.int .u32 (wv (sr x n))) ∧ w = w' := by
  go_enter Tryz.func101, Tryz.ntmps101
  go_wp2
  go_loop [0, 5] (fun sx si => ∃ i : Nat, i ≤ n ∧ si = .int .i64 i ∧ sx = .int .u32 (wv (sr x i))) (fun _ si => n - (intOf si).toNat)
  case atStart => exact ⟨0, Nat.zero_le _, rfl, by rw [sr_zero]⟩
  case round =>
    obtain ⟨i, hi, rfl, rfl⟩ := hrel
    obtain ⟨b0, b1⟩ := wv_lt (sr x i)
    by_cases hlt : i < n
    · have hlt2 : (i : Int) < (n : Int) := by omega
      have HS := hid (sr_succ x i)
      go_wp2
      go_round
      case rel => exact ⟨i + 1, by omega, by go_num, by rw [HS.out]⟩
      case measure => simp [intOf]; omega
    · have hlt2 : ¬ (i : Int) < (n : Int) := by omega
      obtain rfl : i = n := by omega
      go_wp2
      go_ret
      exact ⟨rfl, rfl⟩
theorem rturn_same (x : UInt32) (n : Nat) (k : Int) (hk : k = (n : Int)) (hn : n ≤ 31) (w : World) : Calls Tryz.prog 100 #[.int .u32 (wv x), .int .i64 k] w fun e w' => e = .returned (.int .u32 (wv (rr x n))) ∧ w = w' := by
  subst hk
  exact rturn_any x n hn w
theorem rshift_same (x : UInt32) (n : Nat) (k : Int) (hk : k = (n : Int)) (hn : n ≤ 31) (w : World) : Calls Tryz.prog 101 #[.int .u32 (wv x), .int .i64 k] w fun e w' => e = .returned (.int .u32 (wv (sr x n))) ∧ w = w' := by
  subst hk
  exact rshift_any x n hn w
theorem rturn_still (x : UInt32) (n : Nat) (k : Int) (hk : k = (n : Int)) (hn : n ≤ 31) (w : World) : Calls Tryz.prog 100 #[.int .u32 (wv x), .int .i64 k] w fun e w' => e = .returned (.int .u32 (wv (rr x n))) ∧ w' = w := (rturn_same x n k hk hn w).mono fun _ _ ⟨h, h2⟩ => ⟨h, h2.symm⟩
theorem rshift_still (x : UInt32) (n : Nat) (k : Int) (hk : k = (n : Int)) (hn : n ≤ 31) (w : World) : Calls Tryz.prog 101 #[.int .u32 (wv x), .int .i64 k] w fun e w' => e = .returned (.int .u32 (wv (sr x n))) ∧ w' = w := (rshift_same x n k hk hn w).mono fun _ _ ⟨h, h2⟩ => ⟨h, h2.symm⟩
theorem rturn_lit (x : UInt32) (k : Int) (h0 : 0 ≤ k) (h1 : k ≤ 31) (w : World) : Calls Tryz.prog 100 #[.int .u32 (wv x), .int .i64 k] w fun e w' => e = .returned (.int .u32 (wv (rr x k.toNat))) ∧ w' = w := by
  obtain ⟨n, rfl⟩ := Int.eq_ofNat_of_zero_le h0
  exact rturn_still x n _ rfl (by omega) w
theorem rturn_lit2 (x : UInt32) (k : Int) (h0 : 0 ≤ k) (h1 : k ≤ 31) (w : World) : Calls Tryz.prog 100 #[.int .u32 (wv x), .int .i64 k] w fun e w' => e = .returned (.int .u32 (wv (rr x k.toNat))) ∧ w = w' := (rturn_lit x k h0 h1 w).mono fun _ _ ⟨h, h2⟩ => ⟨h, h2.symm⟩
theorem wpList_store_eight {ops : Array Oper} {rest : List Oper} {o : Oper} {a : Act} {w : World} {Q : Exit → Act → World → Prop} (hgd : o.guard = none) (x y : Operand) (ho : o.op = .store 118 x y)
    {g : Nat} {t : TypeId} {f : Nat → Value} {v0 v1 v2 v3 v4 v5 v6 v7 : Int} (hx : a.eval x = .pointer (some ⟨g, 0, none⟩)) (hy : a.eval y = .agg #[.int .u32 v0, .int .u32 v1, .int .u32 v2, .int .u32 v3, .int .u32 v4, .int .u32 v5, .int .u32 v6, .int .u32 v7]) (hg : Blk w g 8 f t)
    (hh : ∀ w', w.grownBy w' (some g) → Blk w' g 8 (fun j => .int .u32 ([v0, v1, v2, v3, v4, v5, v6, v7].getD j 0)) t → w'.heap.size = w.heap.size → wpList Tryz.prog ops Q rest (a.put o.dst undef) w') : wpList Tryz.prog ops Q (o :: rest) a w :=
  wpList_store_arr arrS (f' := fun j => .int .u32 ([v0, v1, v2, v3, v4, v5, v6, v7].getD j 0)) hgd x y ho hx hy hg (fun _ _ => rfl) hh
theorem wpList_build_eight {ops : Array Oper} {rest : List Oper} {o : Oper} {a : Act} {w : World} {Q : Exit → Act → World → Prop} (hgd : o.guard = none) {x0 x1 x2 x3 x4 x5 x6 x7 : Operand} (ho : o.op = .build 118 #[(0, x0), (1, x1), (2, x2), (3, x3), (4, x4), (5, x5), (6, x6), (7, x7)])
    (v0 v1 v2 v3 v4 v5 v6 v7 : Int) (h0 : a.eval x0 = .int .u32 v0) (h1 : a.eval x1 = .int .u32 v1) (h2 : a.eval x2 = .int .u32 v2) (h3 : a.eval x3 = .int .u32 v3) (h4 : a.eval x4 = .int .u32 v4) (h5 : a.eval x5 = .int .u32 v5) (h6 : a.eval x6 = .int .u32 v6) (h7 : a.eval x7 = .int .u32 v7)
    (h : wpList Tryz.prog ops Q rest (a.put o.dst (.agg #[.int .u32 v0, .int .u32 v1, .int .u32 v2, .int .u32 v3, .int .u32 v4, .int .u32 v5, .int .u32 v6, .int .u32 v7])) w) : wpList Tryz.prog ops Q (o :: rest) a w :=
  wpList_plain hgd fun _ hK => by
    have e : (Instr.build 118 #[(0, .int .u32 v0), (1, .int .u32 v1), (2, .int .u32 v2), (3, .int .u32 v3), (4, .int .u32 v4), (5, .int .u32 v5), (6, .int .u32 v6), (7, .int .u32 v7)]).run Tryz.prog w = .ok (.agg #[.int .u32 v0, .int .u32 v1, .int .u32 v2, .int .u32 v3, .int .u32 v4, .int .u32 v5, .int .u32 v6, .int .u32 v7]) w := by
      have e2 : fcells 8 (fun _ => wc 0) = #[wc 0, wc 0, wc 0, wc 0, wc 0, wc 0, wc 0, wc 0] := by kernel_rfl
      simp [Instr.build, Sem.run_bind, arrS.run_zero, run_underlying arrS.under, arrS.run_esize, Instr.fill, Value.cells, e2]
    unfold Oper.wp execOp
    simp only [ho, Sem.run_bind, List.map_toArray, List.map_cons, List.map_nil, h0, h1, h2, h3, h4, h5, h6, h7, e, Sem.run_pure, Result.andThen_ok]
    exact hK _ _ h
theorem blk_heap {w w' : World} {g n : Nat} {f : Nat → Value} {t : TypeId} (h : Blk w g n f t) (e : w'.heap = w.heap) : Blk w' g n f t := by
  unfold Blk at h ⊢
  rw [e]
  exact h
theorem below_heap {B : Nat} {a w u w' : World} (h : Below B a w) (hg : u.grownBy w' (some B)) (e1 : u.heap = w.heap) (e2 : u.os = w.os) (e3 : u.tape = w.tape) (e4 : u.output = w.output) (hs : B ≤ w.heap.size) : Below B a w' := by
  have hu : Below B a u := ⟨by rw [e2]; exact h.os, by rw [e3]; exact h.tape, by rw [e4]; exact h.output, by rw [e1]; exact h.size, fun k hk => by rw [e1]; exact h.block k hk⟩
  exact hu.grown hg (by rw [e1]; exact hs) (fun k hk => by injection hk; omega)
end Go.Proofs.YtpnejoglkmfleaaGreatDoor
