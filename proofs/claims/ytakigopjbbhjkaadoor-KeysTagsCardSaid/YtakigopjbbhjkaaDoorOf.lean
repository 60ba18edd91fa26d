/-
  sha.Of gives the sum of its parts, one behind the other.
-/
import Derived.Test.YtakigopjbbhjkaaDoorPutRun
import Derived.Test.YtakigopjbbhjkaaDoorFill
namespace Go.Proofs.YtakigopjbbhjkaaDoor
open Go.RowKit

def zrun (j : Nat) : Value := if j < 8 then wc 0 else if j < 72 then bcell 0 else .int .u64 0
theorem zero_run : (Tryd.prog.info? 53).bind (·.zero) = some (.agg (fcells 73 zrun)) := by kernel_rfl
theorem size_run : (Tryd.prog.info? 53).map (·.size) = some 73 := by kernel_rfl
theorem build_run (f : Nat → Value) (w : World) : (Instr.build 53 #[(0, .agg (fcells 8 f))]).run Tryd.prog w = .ok (.agg (fcells 73 fun j => if j < 8 then f j else zrun j)) w := by kernel_rfl
theorem wpList_build_run {ops : Array Oper} {rest : List Oper} {o : Oper} {a : Act} {w : World} {Q : Exit → Act → World → Prop} (hgd : o.guard = none) (x : Operand) (ho : o.op = .build 53 #[(0, x)])
    {f : Nat → Value} (hx : a.eval x = .agg (fcells 8 f)) (h : wpList Tryd.prog ops Q rest (a.put o.dst (.agg (fcells 73 fun j => if j < 8 then f j else zrun j))) w) : wpList Tryd.prog ops Q (o :: rest) a w :=
  wpList_plain hgd fun _ hK => by
    unfold Oper.wp execOp
    simp only [ho, List.map_toArray, List.map_cons, List.map_nil, hx, Sem.run_bind, build_run, Sem.run_pure, Result.andThen_ok]
    exact hK _ _ h
theorem wpList_store_run {ops : Array Oper} {rest : List Oper} {o : Oper} {a : Act} {w : World} {Q : Exit → Act → World → Prop} (hgd : o.guard = none) (x y : Operand) (ho : o.op = .store 53 x y)
    {g : Nat} {t : TypeId} {f f' : Nat → Value} (hx : a.eval x = .pointer (some ⟨g, 0, none⟩)) (hy : a.eval y = .agg (fcells 73 f')) (hg : Blk w g 73 f t) (h1 : ∀ i, i < 73 → (f' i).oneCell' = true)
    (hh : ∀ w', w.grownBy w' (some g) → Blk w' g 73 f' t → w'.heap.size = w.heap.size → wpList Tryd.prog ops Q rest (a.put o.dst undef) w') : wpList Tryd.prog ops Q (o :: rest) a w :=
  wpList_store_row hgd _ x y ho g (fcells 73 f') hx hy t (fcells 73 f) hg (by rw [size_run, fcells_size]) (by rw [fcells_size, fcells_size]) (fcells_one h1)
    (hh _ ⟨rfl, rfl, rfl, by simp, fun k _ hk => setRow_other w g k _ (fun e => hk (by simp [e]))⟩ (setRow_heap w g _ _ t _ hg) (by simp))

theorem run_start {w : World} {g : Nat} (h : Blk w g 73 (fun j => if j < 8 then wc (start j) else zrun j) 53) : Run w g [] :=
  ⟨fun _ => 0, h.congr fun i _ => by
    unfold runf zrun
    by_cases h8 : i < 8
    · rw [if_pos h8, if_pos h8]; rfl
    · rw [if_neg h8, if_neg h8, if_neg h8]; rfl, fun j hj => absurd hj (by simp)⟩

theorem Run.bytes {w : World} {g : Nat} {l : List UInt8} (h : Run w g l) : w.cell? ⟨g, 72, none⟩ = some (.int .u64 (l.length : Int)) := by
  obtain ⟨b, hB, _⟩ := h
  rw [hB.cell (i := 72) (by omega)]
  unfold runf
  rw [if_neg (by omega), if_neg (by omega)]
theorem Run.state {w : World} {g : Nat} {l : List UInt8} (h : Run w g l) : ∃ (f : Nat → Value) (σ : Nat → UInt32), Blk w g 73 f 53 ∧ (∀ j, j < 8 → f (0 + j) = .int .u32 (wv (σ j))) ∧ Hid (σ = absb l (l.length / 64)) := by
  obtain ⟨b, hB, _⟩ := h
  refine ⟨_, absb l (l.length / 64), hB, fun j hj => ?_, hid rfl⟩
  unfold runf
  rw [Nat.zero_add, if_pos hj]
  rfl

/-- What has been written of a sum behind m bytes. -/
def partB (f : Nat → UInt8) (m j : Nat) : Value := if j < m then bcell (f j) else bcell 0
theorem partB_set (f : Nat → UInt8) (m j : Nat) : (if j = m then bcell (f m) else partB f m j) = partB f (m + 1) j := by
  unfold partB
  by_cases h : j = m
  · subst h
    rw [if_pos rfl, if_pos (by omega)]
  · rw [if_neg h]
    by_cases h2 : j < m
    · rw [if_pos h2, if_pos (by omega)]
    · rw [if_neg h2, if_neg (by omega)]

set_option maxHeartbeats 1600000 in
theorem of_any (ls : List (List UInt8)) (vs : Nat → Value) (gp n c : Nat) (w : World) (hn : ls.length = n) (hg : gp < w.heap.size) (hc : ∀ j, j < n → w.cell? ⟨gp, j, none⟩ = some (vs j))
    (hv : ∀ j (h : j < ls.length), Byt w (vs j) ls[j]) (hs : ls.flatten.length ≤ 1000000000) (hn2 : n ≤ 1000) (hK : Kst 1 w) :
    Calls Tryd.prog 17 #[.slice (some ⟨gp, 0, none⟩) n c] w fun e w' => e = .returned (.agg (fcells 32 fun j => bcell (sumS ls.flatten j))) ∧ Below w.heap.size w w' := by
  have Hn := hid hn
  clear hn
  go_enter Tryd.func17, Tryd.ntmps17
  go_wp2_with (refine wpList_alloc_arr arrH rfl rfl ?_)
  have hb0 : Below w.heap.size w (w.alloc (.cells (fcells 32 fun _ => bcell 0) 23)) := (Below.refl _ _).alloc (Nat.le_refl _) _
  have hH0 := Blk.new w 32 (fun _ => bcell 0) 23
  go_wp2_with fail
  refine (start_any _).mono ?_
  rintro e w1 ⟨rfl, hb1⟩
  have hbw1 := hb0.trans (hb1.mono (by simp))
  have hH1 := hH0.keep hb1
  have hs1 := hbw1.size
  clear hb0 hH0 hb1
  go_wp2_with (first
    | (refine wpList_build_run rfl (.tmp 10) rfl rfl ?_)
    | (refine wpList_alloc_cells zero_run rfl rfl ?_)
    | (refine wpList_store_run rfl _ _ rfl rfl rfl (Blk.new w1 73 zrun 53) (fun i hi => by unfold zrun; split; rfl; split; rfl; rfl) ?_; intro w2 hg2 hR2 hs2))
  have hr2 := run_start hR2
  have hbw2 : Below w.heap.size w w2 := below_into (hbw1.alloc hs1 _) hs1 hg2 (by simp; omega)
  have hH2 : Blk w2 w.heap.size 32 (fun _ => bcell 0) 23 := (hH1.alloc _).grown hg2 (by have := hH1.lt; simp; omega)
  have hlt1 := hH1.lt
  obtain ⟨G, HG⟩ : ∃ G : Nat, Hid (w1.heap.size = G) := ⟨_, hid rfl⟩
  rw [HG.out] at hr2 hR2 hg2 hlt1 ⊢
  clear hR2 hg2 hs2 hH1 hbw1
  have hGw : w.heap.size < G := hlt1
  have hG1 : G ≠ 1 := by have := hK.1; omega
  try go_frame
  go_wp2_with fail
  go_loopw [14] (fun si wr => ∃ i : Nat, i ≤ n ∧ si = .int .i64 i ∧ Run wr G (ls.take i).flatten ∧ Below w.heap.size w wr ∧ Blk wr w.heap.size 32 (fun _ => bcell 0) 23) (fun si _ => n - (intOf si).toNat)
  case atStart => exact ⟨0, Nat.zero_le _, rfl, by rw [List.take_zero]; exact hr2, hbw2, hH2⟩
  case round =>
    clear hr2 hbw2 hH2
    obtain ⟨i, hi, rfl, hr, hbw, hH⟩ := hrel
    by_cases hlt : i < n
    · have hlt' : i < ls.length := by rw [Hn.out]; exact hlt
      have hci := (hbw.cell (p := ⟨gp, i, none⟩) hg).trans (hc i hlt)
      have hvi := (hv i hlt').below hbw
      have hKr := hK.below hbw
      have hlen : (ls.take i).flatten.length + ls[i].length ≤ 1099511627776 := by
        have h1 : (ls.take i).flatten ++ ls[i] = (ls.take (i + 1)).flatten := by rw [List.take_succ_eq_append_getElem hlt', List.flatten_append, List.flatten_singleton]
        have h2 := congrArg List.length h1
        have h3 := congrArg (fun l => l.flatten.length) (List.take_append_drop (i + 1) ls)
        simp only [List.flatten_append, List.length_append] at h2 h3
        omega
      have hbl : 0 < ls[i].length → (vs i).ownBlock ≠ some G := fun h0 => byt_block (hv i hlt') h0 (by omega)
      have hin : (i : Int) < (n : Int) := by omega
      go_wp2_with (go_at_call 24; refine (put_any G _ _ _ _ hKr hG1 hr hvi hbl hlen).mono ?_; rintro e w3 ⟨rfl, hr3, hg3⟩)
      go_roundw
      case rel =>
        refine ⟨i + 1, by omega, by go_num, ?_, below_into hbw (by omega) hg3 hbw.size, hH.grown hg3 (fun e => by have := Option.some.inj e; omega)⟩
        rw [List.take_succ_eq_append_getElem hlt', List.flatten_append, List.flatten_singleton]
        exact hr3
      case measure => simp [intOf]; omega
    · have hin : ¬ (i : Int) < (n : Int) := by omega
      have hrA : Run wr G ls.flatten := by
        have e : ls.take i = ls := List.take_of_length_le (by have := Hn.out; omega)
        rw [e] at hr
        exact hr
      clear hr hc hv
      obtain ⟨L, HL⟩ : ∃ L : Nat, Hid (ls.flatten.length = L) := ⟨_, hid rfl⟩
      have hcell := hrA.bytes
      rw [HL.out] at hcell hs
      have hltG := hrA.lt
      go_wp2_with fail
      refine (filling_any L _ (by omega)).mono ?_
      rintro e w4 ⟨v4, rfl, hown4, hb4⟩
      have hbw4 := hbw.trans (hb4.mono hbw.size)
      have hr4 := hrA.keep hb4
      have hH4 := hH.keep hb4
      have hK4 := hK.below hbw4
      have hne4 : 0 < (tailS L).length → v4.ownBlock ≠ some G := fun _ e => by
        have := (World.ownsRow.lt hown4 G e).1
        omega
      clear hcell
      go_wp2_with fail
      refine (put_any G _ _ _ _ hK4 hG1 hr4 hown4.byt hne4 (by rw [tailS_length, HL.out]; have := noughts_le L; omega)).mono ?_
      rintro e w5 ⟨rfl, hr5, hg5⟩
      have hbw5 : Below w.heap.size w w5 := below_into hbw4 (by omega) hg5 hbw4.size
      have hH5 := hH4.grown hg5 (fun e => by have := Option.some.inj e; omega)
      obtain ⟨F, σ, hB5, e5, Hσ⟩ := hr5.state
      clear hr4 hH4 hK4 hown4 hb4 hbw4 hg5 hrA hH hbw hne4
      have hs5 := hbw5.size
      have hltG5 := hB5.lt
      have hB6 := hB5.alloc (.cells (fcells 32 fun _ => bcell 0) 23)
      go_wp2_with (first
        | (refine wpList_alloc_arr arrH rfl rfl ?_)
        | (refine wpList_load_arr_mid arrS rfl (.tmp 25) rfl rfl hB6 (by omega) e5 ?_))
      have hσ : ∀ i, sumS ls.flatten i = byteOf (σ (i / 4)) (i % 4) := fun i => by
        unfold sumS
        rw [Hσ.out]
        unfold fillS
        rw [HL.out]
      clear e5 hB6 hB5 Hσ
      have hH6 : Blk (w5.alloc (.cells (fcells 32 fun _ => bcell 0) 23)) w.heap.size 32 (fun _ => bcell 0) 23 := hH5.alloc _
      have hQ6 : Blk (w5.alloc (.cells (fcells 32 fun _ => bcell 0) 23)) w5.heap.size 32 (fun _ => bcell 0) 23 := Blk.new w5 _ _ _
      have hbw6 : Below w.heap.size w (w5.alloc (.cells (fcells 32 fun _ => bcell 0) 23)) := hbw5.alloc hs5 _
      obtain ⟨Q, HQ⟩ : ∃ Q : Nat, Hid (w5.heap.size = Q) := ⟨_, hid rfl⟩
      rw [HQ.out] at hQ6 ⊢
      have hQw : w.heap.size < Q := by have := HQ.out; omega
      generalize w5.alloc (.cells (fcells 32 fun _ => bcell 0) 23) = w6 at *
      obtain ⟨SA, HSA⟩ : ∃ SA : Value, Hid (Value.agg (fcells 8 fun j => .int .u32 (wv (σ j))) = SA) := ⟨_, hid rfl⟩
      rw [HSA.out]
      have hidx : ∀ (i : Nat), i < 8 → ∀ w, (Instr.index 49 SA (.int .i64 (i : Int))).run Tryd.prog w = .ok (.int .u32 (wv (σ i))) w := fun i hi w => by
        rw [← HSA.out]
        exact arrS.run_index _ hi w
      clear hH5 hbw5 hs5 hltG5
      try go_frame
      have HS := hid hσ
      clear hσ
      go_wp2_with fail
      go_loopw [27] (fun si wr => ∃ i : Nat, i ≤ 8 ∧ si = .int .i64 i ∧ Below w.heap.size w wr ∧ Blk wr w.heap.size 32 (fun _ => bcell 0) 23 ∧ Blk wr Q 32 (partB (sumS ls.flatten) (4 * i)) 23) (fun si _ => 8 - (intOf si).toNat)
      case atStart => exact ⟨0, by omega, rfl, hbw6, hH6, hQ6.congr fun i _ => by simp [partB]⟩
      case round =>
        clear hbw6 hH6 hQ6
        obtain ⟨m, hm, rfl, hbw, hH, hQ⟩ := hrel
        by_cases hlt : m < 8
        · have hx := hidx m hlt
          have hm8 : (m : Int) < 8 := by omega
          clear hidx
          obtain ⟨wo, rfl⟩ : ∃ wo : World, wo = wr := ⟨_, rfl⟩
          go_wp2_with fail
          go_loopw [31] (fun sj wr => ∃ j : Nat, j ≤ 4 ∧ sj = .int .i64 j ∧ Below w.heap.size w wr ∧ Blk wr w.heap.size 32 (fun _ => bcell 0) 23 ∧ Blk wr Q 32 (partB (sumS ls.flatten) (4 * m + j)) 23) (fun sj _ => 4 - (intOf sj).toNat)
          case atStart => exact ⟨0, by omega, rfl, hbw, hH, hQ⟩
          case round =>
            clear hbw hH hQ
            obtain ⟨j, hj, rfl, hbw, hH, hQ⟩ := hrel
            by_cases hlt2 : j < 4
            · have hj4 : (j : Int) < 4 := by omega
              have hsh : 0 ≤ 24 - 8 * (j : Int) := by omega
              have hin2 : 4 * (m : Int) + (j : Int) < 32 := by omega
              have kc := hQ.cell (i := 4 * m + j) (by omega)
              have fc := hQ.free (4 * m + j)
              have hval : Value.int .u8 (wv (σ m) / 2 ^ (24 - 8 * j) % 256) = bcell (sumS ls.flatten (4 * m + j)) := by
                rw [HS.out, show (4 * m + j) / 4 = m from by omega, show (4 * m + j) % 4 = j from by omega]
                unfold bcell byteOf
                rw [u8_ofNat]
                unfold wv
                simp
              have HV := hid hval
              clear hval
              go_wp2_with fail
              go_roundw
              case rel =>
                refine ⟨j + 1, by omega, by go_num, below_set hbw (g := Q) (by omega) _ _, hH.apart _ _ (by omega), (hQ.set (i := 4 * m + j) (by omega) _).congr fun q _ => ?_⟩
                rw [HV.out, ← Nat.add_assoc, ← partB_set]
              case measure => simp [intOf]; omega
            · have hj4 : ¬ (j : Int) < 4 := by omega
              go_wp2_with fail
              go_roundw
              case rel => exact ⟨m + 1, by omega, by go_num, hbw, hH, by rw [show 4 * (m + 1) = 4 * m + j from by omega]; exact hQ⟩
              case measure => simp [intOf]; omega
        · have hm8 : ¬ (m : Int) < 8 := by omega
          have hQ2 : Blk wr Q 32 (fun j => bcell (sumS ls.flatten j)) 23 := hQ.congr fun q hq => if_pos (by omega)
          clear hidx
          go_wp2_with (first
            | (refine wpList_load_arr arrH rfl _ rfl rfl hQ2 ?_)
            | (refine wpList_store_arr arrH rfl _ _ rfl rfl rfl hH (fun _ _ => rfl) ?_; intro w9 hg9 hA9 hs9))
          refine bodyPost_ret (arrH.result rfl _ _ rfl hA9) rfl ⟨rfl, ?_⟩
          exact below_into hbw (Nat.le_refl _) hg9 hbw.size
end Go.Proofs.YtakigopjbbhjkaaDoor
