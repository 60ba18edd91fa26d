/-
  Of OfOne RefOf TxRefId Cut Cuts: what each of them says stands at its head.
-/
import Derived.Test.YtefngncieagobaaDoorMg10
import Derived.Test.YtefngncieagobaaDoorMg9
import Derived.Test.YtefngncieagobaaDoorMg6
import Derived.Test.YtefngncieagobaaDoorMg3
import Derived.Test.YtefngncieagobaaDoorMg4
import Derived.Test.YtefngncieagobaaDoorMg5
import Derived.Deep.DeepCutAuto
import Derived.Test.YtefngncieagobaaDoorMg1
/-
  sha.Of gives the sum of its parts, one behind the other.
-/
namespace Go.Proofs.YtefngncieagobaaDoor
open Go.RowKit

def zrun (j : Nat) : Value := if j < 8 then wc 0 else if j < 72 then bcell 0 else .int .u64 0
theorem zero_run : (Tryd.prog.info? 61).bind (·.zero) = some (.agg (fcells 73 zrun)) := by kernel_rfl
theorem size_run : (Tryd.prog.info? 61).map (·.size) = some 73 := by kernel_rfl
theorem build_run (f : Nat → Value) (w : World) : (Instr.build 61 #[(0, .agg (fcells 8 f))]).run Tryd.prog w = .ok (.agg (fcells 73 fun j => if j < 8 then f j else zrun j)) w := by kernel_rfl
theorem wpList_build_run {ops : Array Oper} {rest : List Oper} {o : Oper} {a : Act} {w : World} {Q : Exit → Act → World → Prop} (hgd : o.guard = none) (x : Operand) (ho : o.op = .build 61 #[(0, x)])
    {f : Nat → Value} (hx : a.eval x = .agg (fcells 8 f)) (h : wpList Tryd.prog ops Q rest (a.put o.dst (.agg (fcells 73 fun j => if j < 8 then f j else zrun j))) w) : wpList Tryd.prog ops Q (o :: rest) a w :=
  wpList_plain hgd fun _ hK => by
    unfold Oper.wp execOp
    simp only [ho, List.map_toArray, List.map_cons, List.map_nil, hx, Sem.run_bind, build_run, Sem.run_pure, Result.andThen_ok]
    exact hK _ _ h
theorem wpList_store_run {ops : Array Oper} {rest : List Oper} {o : Oper} {a : Act} {w : World} {Q : Exit → Act → World → Prop} (hgd : o.guard = none) (x y : Operand) (ho : o.op = .store 61 x y)
    {g : Nat} {t : TypeId} {f f' : Nat → Value} (hx : a.eval x = .pointer (some ⟨g, 0, none⟩)) (hy : a.eval y = .agg (fcells 73 f')) (hg : Blk w g 73 f t) (h1 : ∀ i, i < 73 → (f' i).oneCell' = true)
    (hh : ∀ w', w.grownBy w' (some g) → Blk w' g 73 f' t → w'.heap.size = w.heap.size → wpList Tryd.prog ops Q rest (a.put o.dst undef) w') : wpList Tryd.prog ops Q (o :: rest) a w :=
  wpList_store_row hgd _ x y ho g (fcells 73 f') hx hy t (fcells 73 f) hg (by rw [size_run, fcells_size]) (by rw [fcells_size, fcells_size]) (fcells_one h1)
    (hh _ ⟨rfl, rfl, rfl, by simp, fun k _ hk => setRow_other w g k _ (fun e => hk (by simp [e]))⟩ (setRow_heap w g _ _ t _ hg) (by simp))

theorem run_start {w : World} {g : Nat} (h : Blk w g 73 (fun j => if j < 8 then wc (start j) else zrun j) 61) : Run w g [] :=
  ⟨fun _ => 0, h.congr fun i _ => by
    unfold runf zrun
    by_cases h8 : i < 8
    · rw [if_pos h8, if_pos h8]; rfl
    · rw [if_neg h8, if_neg h8, if_neg h8]; rfl, fun j hj => absurd hj (by simp)⟩

theorem Run.bytes {w : World} {g : Nat} {l : List UInt8} (h : Run w g l) : w.cell? ⟨g, 72, none⟩ = some (.int .u64 (l.length : Int)) := by
  obtain ⟨b, hB, _⟩ := h
  rw [hB.cell (i := 72) (by omega)]
  unfold runf
  rw [if_neg (by omega), if_neg (by omega)]
theorem Run.state {w : World} {g : Nat} {l : List UInt8} (h : Run w g l) : ∃ (f : Nat → Value) (σ : Nat → UInt32), Blk w g 73 f 61 ∧ (∀ j, j < 8 → f (0 + j) = .int .u32 (wv (σ j))) ∧ Hid (σ = absb l (l.length / 64)) := by
  obtain ⟨b, hB, _⟩ := h
  refine ⟨_, absb l (l.length / 64), hB, fun j hj => ?_, hid rfl⟩
  unfold runf
  rw [Nat.zero_add, if_pos hj]
  rfl

/-- What has been written of a sum behind m bytes. -/
def partB (f : Nat → UInt8) (m j : Nat) : Value := if j < m then bcell (f j) else bcell 0
theorem partB_set (f : Nat → UInt8) (m j : Nat) : (if j = m then bcell (f m) else partB f m j) = partB f (m + 1) j := by
  unfold partB
  by_cases h : j = m
  · subst h
    rw [if_pos rfl, if_pos (by omega)]
  · rw [if_neg h]
    by_cases h2 : j < m
    · rw [if_pos h2, if_pos (by omega)]
    · rw [if_neg h2, if_neg (by omega)]

set_option maxHeartbeats 1600000 in
theorem of_any (ls : List (List UInt8)) (vs : Nat → Value) (gp n c : Nat) (w : World) (hn : ls.length = n) (hg : gp < w.heap.size) (hc : ∀ j, j < n → w.cell? ⟨gp, j, none⟩ = some (vs j))
    (hv : ∀ j (h : j < ls.length), Byt w (vs j) ls[j]) (hs : ls.flatten.length ≤ 1000000000) (hn2 : n ≤ 1000) (hK : Kst 1 w) :
    Calls Tryd.prog 21 #[.slice (some ⟨gp, 0, none⟩) n c] w fun e w' => e = .returned (.agg (fcells 32 fun j => bcell (sumS ls.flatten j))) ∧ Below w.heap.size w w' := by
  have Hn := hid hn
  clear hn
  go_enter Tryd.func21, Tryd.ntmps21
  go_wp2_with (refine wpList_alloc_arr arrH rfl rfl ?_)
  have hb0 : Below w.heap.size w (w.alloc (.cells (fcells 32 fun _ => bcell 0) 31)) := (Below.refl _ _).alloc (Nat.le_refl _) _
  have hH0 := Blk.new w 32 (fun _ => bcell 0) 31
  go_wp2_with fail
  refine (start_any _).mono ?_
  rintro e w1 ⟨rfl, hb1⟩
  have hbw1 := hb0.trans (hb1.mono (by simp))
  have hH1 := hH0.keep hb1
  have hs1 := hbw1.size
  clear hb0 hH0 hb1
  go_wp2_with (first
    | (refine wpList_build_run rfl (.tmp 10) rfl rfl ?_)
    | (refine wpList_alloc_cells zero_run rfl rfl ?_)
    | (refine wpList_store_run rfl _ _ rfl rfl rfl (Blk.new w1 73 zrun 61) (fun i hi => by unfold zrun; split; rfl; split; rfl; rfl) ?_; intro w2 hg2 hR2 hs2))
  have hr2 := run_start hR2
  have hbw2 : Below w.heap.size w w2 := below_into (hbw1.alloc hs1 _) hs1 hg2 (by simp; omega)
  have hH2 : Blk w2 w.heap.size 32 (fun _ => bcell 0) 31 := (hH1.alloc _).grown hg2 (by have := hH1.lt; simp; omega)
  have hlt1 := hH1.lt
  obtain ⟨G, HG⟩ : ∃ G : Nat, Hid (w1.heap.size = G) := ⟨_, hid rfl⟩
  rw [HG.out] at hr2 hR2 hg2 hlt1 ⊢
  clear hR2 hg2 hs2 hH1 hbw1
  have hGw : w.heap.size < G := hlt1
  have hG1 : G ≠ 1 := by have := hK.1; omega
  try go_frame
  go_wp2_with fail
  go_loopw [14] (fun si wr => ∃ i : Nat, i ≤ n ∧ si = .int .i64 i ∧ Run wr G (ls.take i).flatten ∧ Below w.heap.size w wr ∧ Blk wr w.heap.size 32 (fun _ => bcell 0) 31) (fun si _ => n - (intOf si).toNat)
  case atStart => exact ⟨0, Nat.zero_le _, rfl, by rw [List.take_zero]; exact hr2, hbw2, hH2⟩
  case round =>
    clear hr2 hbw2 hH2
    obtain ⟨i, hi, rfl, hr, hbw, hH⟩ := hrel
    by_cases hlt : i < n
    · have hlt' : i < ls.length := by rw [Hn.out]; exact hlt
      have hci := (hbw.cell (p := ⟨gp, i, none⟩) hg).trans (hc i hlt)
      have hvi := (hv i hlt').below hbw
      have hKr := hK.below hbw
      have hlen : (ls.take i).flatten.length + ls[i].length ≤ 1099511627776 := by
        have h1 : (ls.take i).flatten ++ ls[i] = (ls.take (i + 1)).flatten := by rw [List.take_succ_eq_append_getElem hlt', List.flatten_append, List.flatten_singleton]
        have h2 := congrArg List.length h1
        have h3 := congrArg (fun l => l.flatten.length) (List.take_append_drop (i + 1) ls)
        simp only [List.flatten_append, List.length_append] at h2 h3
        omega
      have hbl : 0 < ls[i].length → (vs i).ownBlock ≠ some G := fun h0 => byt_block (hv i hlt') h0 (by omega)
      have hin : (i : Int) < (n : Int) := by omega
      go_wp2_with (go_at_call 34; refine (put_any G _ _ _ _ hKr hG1 hr hvi hbl hlen).mono ?_; rintro e w3 ⟨rfl, hr3, hg3⟩)
      go_roundw
      case rel =>
        refine ⟨i + 1, by omega, by go_num, ?_, below_into hbw (by omega) hg3 hbw.size, hH.grown hg3 (fun e => by have := Option.some.inj e; omega)⟩
        rw [List.take_succ_eq_append_getElem hlt', List.flatten_append, List.flatten_singleton]
        exact hr3
      case measure => simp [intOf]; omega
    · have hin : ¬ (i : Int) < (n : Int) := by omega
      have hrA : Run wr G ls.flatten := by
        have e : ls.take i = ls := List.take_of_length_le (by have := Hn.out; omega)
        rw [e] at hr
        exact hr
      clear hr hc hv
      obtain ⟨L, HL⟩ : ∃ L : Nat, Hid (ls.flatten.length = L) := ⟨_, hid rfl⟩
      have hcell := hrA.bytes
      rw [HL.out] at hcell hs
      have hltG := hrA.lt
      go_wp2_with fail
      refine (filling_any L _ (by omega)).mono ?_
      rintro e w4 ⟨v4, rfl, hown4, hb4⟩
      have hbw4 := hbw.trans (hb4.mono hbw.size)
      have hr4 := hrA.keep hb4
      have hH4 := hH.keep hb4
      have hK4 := hK.below hbw4
      have hne4 : 0 < (tailS L).length → v4.ownBlock ≠ some G := fun _ e => by
        have := (World.ownsRow.lt hown4 G e).1
        omega
      clear hcell
      go_wp2_with fail
      refine (put_any G _ _ _ _ hK4 hG1 hr4 hown4.byt hne4 (by rw [tailS_length, HL.out]; have := noughts_le L; omega)).mono ?_
      rintro e w5 ⟨rfl, hr5, hg5⟩
      have hbw5 : Below w.heap.size w w5 := below_into hbw4 (by omega) hg5 hbw4.size
      have hH5 := hH4.grown hg5 (fun e => by have := Option.some.inj e; omega)
      obtain ⟨F, σ, hB5, e5, Hσ⟩ := hr5.state
      clear hr4 hH4 hK4 hown4 hb4 hbw4 hg5 hrA hH hbw hne4
      have hs5 := hbw5.size
      have hltG5 := hB5.lt
      have hB6 := hB5.alloc (.cells (fcells 32 fun _ => bcell 0) 31)
      go_wp2_with (first
        | (refine wpList_alloc_arr arrH rfl rfl ?_)
        | (refine wpList_load_arr_mid arrS rfl (.tmp 25) rfl rfl hB6 (by omega) e5 ?_))
      have hσ : ∀ i, sumS ls.flatten i = byteOf (σ (i / 4)) (i % 4) := fun i => by
        unfold sumS
        rw [Hσ.out]
        unfold fillS
        rw [HL.out]
      clear e5 hB6 hB5 Hσ
      have hH6 : Blk (w5.alloc (.cells (fcells 32 fun _ => bcell 0) 31)) w.heap.size 32 (fun _ => bcell 0) 31 := hH5.alloc _
      have hQ6 : Blk (w5.alloc (.cells (fcells 32 fun _ => bcell 0) 31)) w5.heap.size 32 (fun _ => bcell 0) 31 := Blk.new w5 _ _ _
      have hbw6 : Below w.heap.size w (w5.alloc (.cells (fcells 32 fun _ => bcell 0) 31)) := hbw5.alloc hs5 _
      obtain ⟨Q, HQ⟩ : ∃ Q : Nat, Hid (w5.heap.size = Q) := ⟨_, hid rfl⟩
      rw [HQ.out] at hQ6 ⊢
      have hQw : w.heap.size < Q := by have := HQ.out; omega
      generalize w5.alloc (.cells (fcells 32 fun _ => bcell 0) 31) = w6 at *
      obtain ⟨SA, HSA⟩ : ∃ SA : Value, Hid (Value.agg (fcells 8 fun j => .int .u32 (wv (σ j))) = SA) := ⟨_, hid rfl⟩
      rw [HSA.out]
      have hidx : ∀ (i : Nat), i < 8 → ∀ w, (Instr.index 57 SA (.int .i64 (i : Int))).run Tryd.prog w = .ok (.int .u32 (wv (σ i))) w := fun i hi w => by
        rw [← HSA.out]
        exact arrS.run_index _ hi w
      clear hH5 hbw5 hs5 hltG5
      try go_frame
      have HS := hid hσ
      clear hσ
      go_wp2_with fail
      go_loopw [27] (fun si wr => ∃ i : Nat, i ≤ 8 ∧ si = .int .i64 i ∧ Below w.heap.size w wr ∧ Blk wr w.heap.size 32 (fun _ => bcell 0) 31 ∧ Blk wr Q 32 (partB (sumS ls.flatten) (4 * i)) 31) (fun si _ => 8 - (intOf si).toNat)
      case atStart => exact ⟨0, by omega, rfl, hbw6, hH6, hQ6.congr fun i _ => by simp [partB]⟩
      case round =>
        clear hbw6 hH6 hQ6
        obtain ⟨m, hm, rfl, hbw, hH, hQ⟩ := hrel
        by_cases hlt : m < 8
        · have hx := hidx m hlt
          have hm8 : (m : Int) < 8 := by omega
          clear hidx
          obtain ⟨wo, rfl⟩ : ∃ wo : World, wo = wr := ⟨_, rfl⟩
          go_wp2_with fail
          go_loopw [31] (fun sj wr => ∃ j : Nat, j ≤ 4 ∧ sj = .int .i64 j ∧ Below w.heap.size w wr ∧ Blk wr w.heap.size 32 (fun _ => bcell 0) 31 ∧ Blk wr Q 32 (partB (sumS ls.flatten) (4 * m + j)) 31) (fun sj _ => 4 - (intOf sj).toNat)
          case atStart => exact ⟨0, by omega, rfl, hbw, hH, hQ⟩
          case round =>
            clear hbw hH hQ
            obtain ⟨j, hj, rfl, hbw, hH, hQ⟩ := hrel
            by_cases hlt2 : j < 4
            · have hj4 : (j : Int) < 4 := by omega
              have hsh : 0 ≤ 24 - 8 * (j : Int) := by omega
              have hin2 : 4 * (m : Int) + (j : Int) < 32 := by omega
              have kc := hQ.cell (i := 4 * m + j) (by omega)
              have fc := hQ.free (4 * m + j)
              have hval : Value.int .u8 (wv (σ m) / 2 ^ (24 - 8 * j) % 256) = bcell (sumS ls.flatten (4 * m + j)) := by
                rw [HS.out, show (4 * m + j) / 4 = m from by omega, show (4 * m + j) % 4 = j from by omega]
                unfold bcell byteOf
                rw [u8_ofNat]
                unfold wv
                simp
              have HV := hid hval
              clear hval
              go_wp2_with fail
              go_roundw
              case rel =>
                refine ⟨j + 1, by omega, by go_num, below_set hbw (g := Q) (by omega) _ _, hH.apart _ _ (by omega), (hQ.set (i := 4 * m + j) (by omega) _).congr fun q _ => ?_⟩
                rw [HV.out, ← Nat.add_assoc, ← partB_set]
              case measure => simp [intOf]; omega
            · have hj4 : ¬ (j : Int) < 4 := by omega
              go_wp2_with fail
              go_roundw
              case rel => exact ⟨m + 1, by omega, by go_num, hbw, hH, by rw [show 4 * (m + 1) = 4 * m + j from by omega]; exact hQ⟩
              case measure => simp [intOf]; omega
        · have hm8 : ¬ (m : Int) < 8 := by omega
          have hQ2 : Blk wr Q 32 (fun j => bcell (sumS ls.flatten j)) 31 := hQ.congr fun q hq => if_pos (by omega)
          clear hidx
          go_wp2_with (first
            | (refine wpList_load_arr arrH rfl _ rfl rfl hQ2 ?_)
            | (refine wpList_store_arr arrH rfl _ _ rfl rfl rfl hH (fun _ _ => rfl) ?_; intro w9 hg9 hA9 hs9))
          refine bodyPost_ret (arrH.result rfl _ _ rfl hA9) rfl ⟨rfl, ?_⟩
          exact below_into hbw (Nat.le_refl _) hg9 hbw.size
end Go.Proofs.YtefngncieagobaaDoor

/-
  The sum of one part, and a text's blocks.
-/
namespace Go.Proofs.YtefngncieagobaaDoor
open Go.RowKit

theorem of_one (v : Value) (l : List UInt8) (gp c : Nat) (w : World) (hg : gp < w.heap.size) (h0 : w.cell? ⟨gp, 0, none⟩ = some v) (b0 : Byt w v l) (hs : l.length ≤ 1000000) (hK : Kst 1 w) :
    Calls Tryd.prog 21 #[.slice (some ⟨gp, 0, none⟩) 1 c] w fun e w' => e = .returned (.agg (fcells 32 fun j => bcell (sumS l j))) ∧ Below w.heap.size w w' := by
  have h := of_any [l] (fun _ => v) gp 1 c w rfl hg (fun j hj => by
    obtain rfl : j = 0 := by omega
    exact h0) (fun j hj => by
    have hj2 : j < 1 := hj
    obtain rfl : j = 0 := by omega
    exact b0) (by simp; omega) (by omega) hK
  have e : ([l] : List (List UInt8)).flatten = l := by simp
  rw [e] at h
  exact h

/-- The k-th block of a text. -/
def blockOf (l : List UInt8) (k j : Nat) : UInt8 := l.getD (64 * k + j) 0
theorem absb_succ (l : List UInt8) (k : Nat) : absb l (k + 1) = turnS (absb l k) (blockOf l k) := rfl

theorem four_sum (x : UInt32) : ((byteOf x 0).toNat : Int) * 16777216 + ((byteOf x 1).toNat : Int) * 65536 + ((byteOf x 2).toNat : Int) * 256 + ((byteOf x 3).toNat : Int) = wv x := by
  have hx := x.toNat_lt
  unfold byteOf wv
  rw [u8_ofNat, u8_ofNat, u8_ofNat, u8_ofNat]
  omega
end Go.Proofs.YtefngncieagobaaDoor

/-
  tithingref02.Of gives the sum of a text.
-/
namespace Go.Proofs.YtefngncieagobaaDoor
open Go.RowKit

theorem grown_of_below2 {w w' : World} (h : Below w.heap.size w w') (row : Option Nat) : w.grownBy w' row := ⟨h.os, h.tape, h.output, h.size, fun k hk _ => h.block k hk⟩

set_option maxHeartbeats 3200000 in
theorem refOf_any (v : Value) (l : List UInt8) (w : World) (hv : Byt w v l) (hs : l.length ≤ 1000000) (hK : Kst 0 w) :
    Calls Tryd.prog 22 #[v] w fun e w' => e = .returned (.agg (fcells 32 fun j => bcell (sumS l j))) ∧ Below w.heap.size w w' := by
  obtain ⟨A, c, rfl⟩ := hv.shape
  obtain ⟨L, HL⟩ : ∃ L : Nat, Hid (l.length = L) := ⟨_, hid rfl⟩
  rw [HL.out] at hs hv ⊢
  go_enter Tryd.func22, Tryd.ntmps22
  go_wp2_with (first
    | (refine wpList_alloc_arr arrH rfl rfl ?_)
    | (refine wpList_build_eight rfl rfl _ _ _ _ _ _ _ _ rfl rfl rfl rfl rfl rfl rfl rfl ?_)
    | (refine wpList_alloc_arr arrS rfl rfl ?_)
    | (refine wpList_store_arr arrS (f' := fun j => wc (start j)) rfl _ _ rfl rfl rfl (Blk.new _ 8 (fun _ => wc 0) 57) (fun _ _ => rfl) ?_; intro w1 hg1 hS1 hs1))
  have hb1 : Below w.heap.size w w1 := (((Below.refl _ _).alloc (Nat.le_refl _) (.cells (fcells 32 fun _ => bcell 0) 31)).alloc (by simp) (.cells (fcells 8 fun _ => wc 0) 57)).grown hg1 (by simp; omega) (fun k hk => by injection hk; simp at *; omega)
  have hH1 : Blk w1 w.heap.size 32 (fun _ => bcell 0) 31 := ((Blk.new w 32 (fun _ => bcell 0) 31).alloc _).grown hg1 (by simp)
  have hv1 := hv.below hb1
  have hs1' := hb1.size
  clear hg1 hs1
  go_wp2_with fail
  refine (refFill_any _ l w1 hv1 (by rw [HL.out]; omega)).mono ?_
  rintro e w2 ⟨v2, rfl, hown2, hb2⟩
  obtain ⟨A2, c2, rfl⟩ := hown2.byt.shape
  obtain ⟨F, HF⟩ : ∃ F : Nat, Hid ((fillS l).length = F) := ⟨_, hid rfl⟩
  have hF0 := fillS_length l
  have hF1 := fillS_mod l
  have hnl := noughts_le l.length
  rw [HF.out] at hown2 hF0 hF1 ⊢
  rw [HL.out] at hF0 hnl
  obtain ⟨P, HP⟩ : ∃ P : Nat, Hid (F = 64 * P) := ⟨F / 64, hid (by omega)⟩
  have hF2 : F ≤ 1000100 := by omega
  clear hF0 hF1 hnl
  obtain ⟨S, HS⟩ : ∃ S : Nat, Hid (w.heap.size + 1 = S) := ⟨_, hid rfl⟩
  have hS0 : Blk w1 (w.heap.size + 1) 8 (fun j => wc (start j)) 57 := by simpa using hS1
  rw [HS.out] at hS0 ⊢
  have hSw1 := hS0.lt
  have hSw : w.heap.size < S := by have := HS.out; omega
  have hS2 : Blk w2 S 8 (fun j => wc (absb (fillS l) 0 j)) 57 := hS0.keep hb2
  have hH2 := hH1.keep hb2
  have hbw2 := hb1.trans (hb2.mono hs1')
  have hs2 := hb2.size
  have hv2 := hown2.byt
  have hne : (Value.slice A2 F c2).ownBlock ≠ some S := fun e => by have := (World.ownsRow.lt hown2 S e).1; omega
  have hS2w : S < w2.heap.size := by omega
  have HH := hid hH2
  have HK := hid hK
  clear hS1 hS0 hH1 hv1 hb1 hb2 hown2 hH2 hv hK
  try go_frame
  go_wp2_with fail
  go_loopw [5] (fun si wr => ∃ i k : Nat, k ≤ P ∧ Hid (i = 64 * k) ∧ si = .int .i64 i ∧ w2.grownBy wr (some S) ∧ Blk wr S 8 (fun j => wc (absb (fillS l) k j)) 57) (fun si _ => F - (intOf si).toNat)
  case atStart => exact ⟨0, 0, Nat.zero_le _, hid rfl, rfl, grown_of_below2 (Below.refl _ _) _, hS2⟩
  case round =>
    clear hS2
    obtain ⟨i, k, hk, HI, rfl, hgr, hS⟩ := hrel
    have hltS := hS.lt
    have hgs := hgr.size
    by_cases hlt : k < P
    · have hiF : (i : Int) < (F : Int) := by have := HI.out; have := HP.out; omega
      have hvr : Byt wr (.slice A2 F c2) (fillS l) := hv2.keep hgs fun b hb e => hgr.block b hb (fun e2 => hne (by rw [e, e2]))
      have hc1 := hvr.at_.2.1
      have hr := hvr.at_.2.2.2
      rw [HF.out] at hc1
      obtain ⟨b, off, rfl, hb2, hcell⟩ := hr (by rw [HF.out]; omega)
      have HC := hid hcell
      clear hr hcell
      obtain ⟨wo, rfl⟩ : ∃ wo : World, wo = wr := ⟨_, rfl⟩
      go_wp2_with (first
        | (refine wpList_zero_arr arrB rfl rfl ?_)
        | (refine wpList_alloc_arr arrB rfl rfl ?_)
        | (refine wpList_store_arr arrB rfl _ _ rfl rfl rfl (Blk.new wo 64 (fun _ => bcell 0) 59) (fun _ _ => rfl) ?_; intro w4 hg4 hB4 hs4))
      obtain ⟨B, HB⟩ : ∃ B : Nat, Hid (wo.heap.size = B) := ⟨_, hid rfl⟩
      have hS4 : Blk w4 S 8 (fun j => wc (absb (fillS l) k j)) 57 := (hS.alloc _).grown hg4 (by simp; omega)
      have hbB4 : Below wo.heap.size wo w4 := ((Below.refl _ _).alloc (Nat.le_refl _) _).grown hg4 (by simp) (fun k hk => by injection hk; omega)
      have hbB1 : b < B := by have := HB.out; omega
      rw [HB.out] at hB4 hltS hbB4 ⊢
      clear hg4 hs4
      go_wp2_with fail
      go_loopw [7] (fun sm wr => ∃ m : Nat, m ≤ 64 ∧ sm = .int .i64 m ∧ Below B wo wr ∧ Blk wr B 64 (partB (blockOf (fillS l) k) m) 59) (fun sm _ => 64 - (intOf sm).toNat)
      case atStart => exact ⟨0, by omega, rfl, hbB4, hB4.congr fun i _ => by simp [partB]⟩
      case round =>
        clear hbB4 hS4 hB4
        obtain ⟨m, hm, rfl, hbB, hB⟩ := hrel
        have hltB := hB.lt
        by_cases hlt2 : m < 64
        · have hm64 : (m : Int) < 64 := by omega
          have hif : i + m < F := by have := HI.out; have := HP.out; omega
          have hif2 : (i : Int) + (m : Int) < (F : Int) := by omega
          have hlf : i + m < (fillS l).length := by rw [HF.out]; exact hif
          have ck := (hbB.cell (p := ⟨b, off + (i + m), none⟩) hbB1).trans (HC.out (i + m) hlf)
          have kb := hB.cell (i := m) (by omega)
          have fb := hB.free m
          have hval : bcell (fillS l)[i + m] = bcell (blockOf (fillS l) k m) := by
            unfold blockOf
            rw [← HI.out, List.getD_eq_getElem?_getD, List.getElem?_eq_getElem hlf]
            rfl
          have HV := hid hval
          unfold bcell at ck
          clear hval
          go_wp2_with fail
          go_roundw
          case rel =>
            refine ⟨m + 1, by omega, by go_num, below_set hbB (g := B) (Nat.le_refl _) _ _, (hB.set (i := m) (by omega) _).congr fun q _ => ?_⟩
            rw [← partB_set, ← HV.out]
            rfl
          case measure => simp [intOf]; omega
        · have hm64 : ¬ (m : Int) < 64 := by omega
          have hB2 : Blk wr B 64 (fun j => bcell (blockOf (fillS l) k j)) 59 := hB.congr fun q hq => if_pos (by omega)
          have hSr := hS.below hbB hltS
          have hgr2 : w2.grownBy wr (some S) := hgr.trans (grown_of_below2 (by rw [HB.out]; exact hbB) _)
          have hbw : Below w.heap.size w wr := hbw2.grown hgr2 hbw2.size (fun k hk => by injection hk; omega)
          have hKr := HK.out.below hbw
          go_wp2_with (first
            | (refine wpList_load_arr arrS rfl _ rfl rfl hSr ?_)
            | (refine wpList_load_arr arrB rfl _ rfl rfl hB2 ?_))
          refine (refTurn_any _ _ wr hKr).mono ?_
          rintro e w6 ⟨rfl, hb6⟩
          have hS6 := hSr.keep hb6
          have hg6 : w2.grownBy w6 (some S) := hgr2.trans (grown_of_below2 hb6 _)
          go_wp2_with (refine wpList_store_arr arrS rfl _ _ rfl rfl rfl hS6 (fun _ _ => rfl) ?_; intro w7 hg7 hS7 hs7)
          go_roundw
          case rel => exact ⟨i + 64, k + 1, by omega, hid (by have := HI.out; omega), by go_num, hg6.trans hg7, hS7⟩
          case measure => simp [intOf]; omega
    · have hiF : ¬ (i : Int) < (F : Int) := by have := HI.out; have := HP.out; omega
      have ekP : k = P := by omega
      have hS' : Blk wr S 8 (fun j => wc (absb (fillS l) P j)) 57 := by rw [← ekP]; exact hS
      have hbw : Below w.heap.size w wr := hbw2.grown hgr hbw2.size (fun k hk => by injection hk; omega)
      have hH : Blk wr w.heap.size 32 (fun _ => bcell 0) 31 := HH.out.grown hgr (fun e => by have := Option.some.inj e; omega)
      clear hS
      obtain ⟨wo, rfl⟩ : ∃ wo : World, wo = wr := ⟨_, rfl⟩
      go_wp2_with (first
        | (refine wpList_zero_arr arrH rfl rfl ?_)
        | (refine wpList_alloc_arr arrH rfl rfl ?_)
        | (refine wpList_store_arr arrH rfl _ _ rfl rfl rfl (Blk.new wo 32 (fun _ => bcell 0) 31) (fun _ _ => rfl) ?_; intro w8 hg8 hQ8 hs8))
      obtain ⟨Q, HQ⟩ : ∃ Q : Nat, Hid (wo.heap.size = Q) := ⟨_, hid rfl⟩
      have hbQ8 : Below wo.heap.size wo w8 := ((Below.refl _ _).alloc (Nat.le_refl _) _).grown hg8 (by simp) (fun k hk => by injection hk; omega)
      have hltH := hH.lt
      rw [HQ.out] at hQ8 hltS hbQ8 hltH ⊢
      clear hg8 hs8
      go_wp2_with fail
      go_loopw [9] (fun si wr => ∃ i : Nat, i ≤ 32 ∧ si = .int .i64 i ∧ Below Q wo wr ∧ Blk wr Q 32 (partB (sumS l) i) 31) (fun si _ => 32 - (intOf si).toNat)
      case atStart => exact ⟨0, by omega, rfl, hbQ8, hQ8.congr fun i _ => by simp [partB]⟩
      case round =>
        clear hbQ8 hQ8
        obtain ⟨j, hj, rfl, hbQ, hQ⟩ := hrel
        have hltQ := hQ.lt
        by_cases hlt2 : j < 32
        · have hj32 : (j : Int) < 32 := by omega
          have cs := (hS'.below hbQ hltS).cell (i := j / 4) (by omega)
          have kc := hQ.cell (i := j) (by omega)
          have fc := hQ.free j
          unfold wc at cs
          have t1 : Int.tdiv (j : Int) 4 = ((j / 4 : Nat) : Int) := by rw [Int.tdiv_eq_ediv_of_nonneg (by omega)]; omega
          have t2 : Int.tmod (j : Int) 4 = ((j % 4 : Nat) : Int) := by rw [Int.tmod_eq_emod_of_nonneg (by omega)]; omega
          have hval : Value.int .u8 (wv (absb (fillS l) P (j / 4)) / 2 ^ (24 - 8 * (j % 4)) % 256) = bcell (sumS l j) := by
            unfold sumS
            rw [show (fillS l).length / 64 = P from by have := HF.out; have := HP.out; omega]
            unfold bcell byteOf
            rw [u8_ofNat]
            unfold wv
            simp
          have HV := hid hval
          clear hval
          go_wp2_with fail
          go_roundw
          case rel =>
            refine ⟨j + 1, by omega, by go_num, below_set hbQ (g := Q) (Nat.le_refl _) _ _, (hQ.set (i := j) (by omega) _).congr fun q _ => ?_⟩
            rw [HV.out, ← partB_set]
          case measure => simp [intOf]; omega
        · have hj32 : ¬ (j : Int) < 32 := by omega
          have hQ2 : Blk wr Q 32 (fun j => bcell (sumS l j)) 31 := hQ.congr fun q hq => if_pos (by omega)
          have hH2 := hH.below hbQ hltH
          have hbw3 : Below w.heap.size w wr := hbw.trans (hbQ.mono (by omega))
          go_wp2_with (first
            | (refine wpList_load_arr arrH rfl _ rfl rfl hQ2 ?_)
            | (refine wpList_store_arr arrH rfl _ _ rfl rfl rfl hH2 (fun _ _ => rfl) ?_; intro w9 hg9 hC9 hs9))
          refine bodyPost_ret (arrH.result rfl _ _ rfl hC9) rfl ⟨rfl, ?_⟩
          exact below_into hbw3 (Nat.le_refl _) hg9 hbw3.size
end Go.Proofs.YtefngncieagobaaDoor

/-
  tithingref06.Id: a transaction's id.
-/
namespace Go.Proofs.YtefngncieagobaaDoor
open Go.RowKit
attribute [local go_sem ↓] exec_load_tx

/-- A transaction's id: nought, if it may not be. -/
def idT (t : TxM) (j : Nat) : UInt8 := if mayT t = true then sumS (bytesT t) j else 0
theorem tx_agg (t : TxM) : ∃ C : Array Value, txv t = .agg C ∧ C.size = 7 ∧ C = #[.int .i64 t.fr, .int .i64 t.no, .int .i64 t.ki, .int .i64 t.to, .int .i64 t.am, .string (sb t.key), .string (sb t.val)] := ⟨_, rfl, rfl, rfl⟩

set_option maxHeartbeats 3200000 in
theorem refId6_any (t : TxM) (w : World) (hk : t.key.length ≤ 1000000) (hv : t.val.length ≤ 1000000) (hK : Kst 0 w) :
    Calls Tryd.prog 10 #[txv t] w fun e w' => e = .returned (.agg (fcells 32 fun j => bcell (idT t j))) ∧ Below w.heap.size w w' := by
  obtain ⟨m, HM⟩ : ∃ m : Bool, Hid (mayT t = m) := ⟨_, hid rfl⟩
  have HMA := hid (fun w => refMay_any t w hk hv)
  obtain ⟨D, HD⟩ : ∃ D : Nat → Value, Hid ((fun j => bcell (idT t j)) = D) := ⟨_, hid rfl⟩
  have hD1 : ∀ i, i < 32 → (D i).oneCell' = true := by rw [← HD.out]; intro i _; rfl
  have HDI : ∀ b : Bool, Hid (mayT t = b) → Hid (D = fun j => if b = true then bcell (sumS (bytesT t) j) else bcell 0) := fun b hb => hid (by
    rw [← HD.out]
    unfold idT
    rw [hb.out]
    cases b <;> rfl)
  have HDM := HDI m HM
  clear HDI
  rw [HD.out]
  obtain ⟨C, hC, hCs, hCe⟩ := tx_agg t
  have HCV := hid hC
  have hr0 := heap1 w (.cells C 23) (.cells (fcells 32 fun _ => bcell 0) 31)
  have hH0 : Blk ((w.alloc (.cells C 23)).alloc (.cells (fcells 32 fun _ => bcell 0) 31)) (w.heap.size + 1) 32 (fun _ => bcell 0) 31 := heap2 w (.cells C 23) _
  have hb0 : Below w.heap.size w ((w.alloc (.cells C 23)).alloc (.cells (fcells 32 fun _ => bcell 0) 31)) := ((Below.refl _ _).alloc (Nat.le_refl _) _).alloc (by simp) _
  have HKB := hid (fun W (h : Below w.heap.size w W) => (show Kst 0 W from hK.below h))
  have HBY := hid (fun w (h : mayT t = true) => refBytes_any t w h)
  rw [hCe] at hr0 hH0 hb0
  unfold txv
  clear hC hK hk hv hCe
  go_enter Tryd.func10, Tryd.ntmps10
  go_upto_region 1 with (refine wpList_alloc_arr arrH rfl rfl ?_)
  generalize ((w.alloc (.cells #[.int .i64 t.fr, .int .i64 t.no, .int .i64 t.ki, .int .i64 t.to, .int .i64 t.am, .string (sb t.key), .string (sb t.val)] 23)).alloc (.cells (fcells 32 fun _ => bcell 0) 31)) = w0 at *
  have hl0 := lt_of_block hr0
  have hld : ∀ W : World, Below w0.heap.size w0 W → loadTx (.pointer (some ⟨w.heap.size, 0, none⟩)) W = .ok (.value (.agg #[.int .i64 t.fr, .int .i64 t.no, .int .i64 t.ki, .int .i64 t.to, .int .i64 t.am, .string (sb t.key), .string (sb t.val)])) W := fun W h => loadTx_eq ((h.block _ hl0).trans hr0) rfl
  have HLD := hid hld
  have l0 := hld w0 (Below.refl _ _)
  clear hld
  go_wp2_with fail
  refine (HMA.out w0).mono ?_
  rintro e w1 ⟨rfl, hb1⟩
  rw [HM.out]
  have hH1 := hH0.keep hb1
  have hB1 := hb0.trans (hb1.mono hb0.size)
  have l1 := HLD.out w1 hb1
  clear hr0 hl0 l0 hH0
  cases m with
  | false =>
    clear l1
    go_wp2_with (first
      | (refine wpList_zero_arr arrH rfl rfl ?_)
      | (refine wpList_store_arr arrH rfl _ _ rfl rfl rfl hH1 (fun _ _ => rfl) ?_; intro wA hgA hAA hsA))
    refine bodyPost_ret (arrH.result rfl _ _ rfl hAA) rfl ⟨by rw [HDM.out]; rfl, ?_⟩
    exact below_into hB1 (Nat.le_succ _) hgA hB1.size
  | true =>
    go_wp2_with fail
    refine (HBY.out w1 HM.out).mono ?_
    rintro e w2 ⟨x, rfl, ho2, hb2⟩
    have hH2 := hH1.keep hb2
    have hB2 := hB1.trans (hb2.mono hB1.size)
    have hlen : (bytesT t).length ≤ 1000000 := Nat.le_trans (bytesT_len HM.out) (by decide)
    clear l1 hH1
    go_wp2_with fail
    refine (refOf_any x (bytesT t) w2 ho2.byt hlen (HKB.out _ hB2)).mono ?_
    rintro e w3 ⟨rfl, hb3⟩
    have hH3 := hH2.keep hb3
    have hB3 := hB2.trans (hb3.mono hB2.size)
    clear hH2 ho2
    go_wp2_with (refine wpList_store_arr arrH rfl _ _ rfl rfl rfl hH3 (fun _ _ => rfl) ?_; intro wA hgA hAA hsA)
    refine bodyPost_ret (arrH.result rfl _ _ rfl hAA) rfl ⟨by rw [HDM.out]; rfl, ?_⟩
    exact below_into hB3 (Nat.le_succ _) hgA hB3.size
end Go.Proofs.YtefngncieagobaaDoor

/-
  Slices of bytes cut in three ways, each kept whole under a name. No function of the program.
-/
namespace Go.Proofs.YtefngncieagobaaDoor
open Go.RowKit

/-- What cutting comes to: kept whole. -/
noncomputable def cutH (v h : Value) (w : World) : Result Next := Sem.run Tryd.prog (execOp (fun o => match o with | .tmp 0 => v | _ => h) { dst := none, op := .slice 24 (.tmp 0) none (some (.tmp 1)) none, type := 0, pos := "", after := #[], guard := none }) w
noncomputable def cutL (v l : Value) (w : World) : Result Next := Sem.run Tryd.prog (execOp (fun o => match o with | .tmp 0 => v | _ => l) { dst := none, op := .slice 24 (.tmp 0) (some (.tmp 1)) none none, type := 0, pos := "", after := #[], guard := none }) w
noncomputable def cutLH (v l h : Value) (w : World) : Result Next := Sem.run Tryd.prog (execOp (fun o => match o with | .tmp 0 => v | .tmp 1 => l | _ => h) { dst := none, op := .slice 24 (.tmp 0) (some (.tmp 1)) (some (.tmp 2)) none, type := 0, pos := "", after := #[], guard := none }) w
theorem exec_cutH (r : Operand → Value) (x h : Operand) (dst : Option Tmp) (ty : TypeId) (pos : String) (after : Array Edge) (guard : Option (Nat × Bool)) (w : World) :
    Sem.run Tryd.prog (execOp r { dst := dst, op := .slice 24 x none (some h) none, type := ty, pos := pos, after := after, guard := guard }) w = cutH (r x) (r h) w := rfl
theorem exec_cutL (r : Operand → Value) (x l : Operand) (dst : Option Tmp) (ty : TypeId) (pos : String) (after : Array Edge) (guard : Option (Nat × Bool)) (w : World) :
    Sem.run Tryd.prog (execOp r { dst := dst, op := .slice 24 x (some l) none none, type := ty, pos := pos, after := after, guard := guard }) w = cutL (r x) (r l) w := rfl
theorem exec_cutLH (r : Operand → Value) (x l h : Operand) (dst : Option Tmp) (ty : TypeId) (pos : String) (after : Array Edge) (guard : Option (Nat × Bool)) (w : World) :
    Sem.run Tryd.prog (execOp r { dst := dst, op := .slice 24 x (some l) (some h) none, type := ty, pos := pos, after := after, guard := guard }) w = cutLH (r x) (r l) (r h) w := rfl

/-- Bytes from i on, up to k. -/
theorem RdB.sub {w : World} {A : Option Addr} {l : List UInt8} (h : RdB w A l) (i k c : Nat) (hik : i ≤ k) (hk : k ≤ l.length) (hc : l.length ≤ c) : RdB w (if c = i then A else A.map (·.add i)) ((l.drop i).take (k - i)) := fun h0 => by
  rw [List.length_take, List.length_drop] at h0
  obtain ⟨b, off, rfl, hb, hcl⟩ := h (by omega)
  rw [if_neg (by omega)]
  refine ⟨b, off + i, by rw [Option.map_some, addr_add], hb, fun j hj => ?_⟩
  rw [List.length_take, List.length_drop] at hj
  rw [Nat.add_assoc, hcl (i + j) (by omega), List.getElem_take, List.getElem_drop]
theorem sub_length {l : List UInt8} {i k : Nat} (hk : k ≤ l.length) : ((l.drop i).take (k - i)).length = k - i := by
  rw [List.length_take, List.length_drop]
  omega

theorem cut_lh (A : Option Addr) (c L i k : Nat) (hik : i ≤ k) (hk : k ≤ L) (hc : L ≤ c) : ∃ A' c', (∀ w, cutLH (.slice A L c) (.int .i64 (i : Int)) (.int .i64 (k : Int)) w = .ok (.value (.slice A' (k - i) c')) w) ∧ ∀ w l, l.length = L → Byt w (.slice A L c) l → Byt w (.slice A' (k - i) c') ((l.drop i).take (k - i)) := by
  refine ⟨if c = i then A else A.map (·.add i), c - i, fun w => ?_, fun w l hl hv => ?_⟩
  · obtain ⟨i0, hi, hz0, hz1, hz2⟩ := info_parts info_u8
    have hk4 : k ≤ c := by omega
    unfold cutLH execOp
    simp [Instr.sliceAt, Instr.slice, run_underlying under_bytes, Instr.sliceBounds, Instr.sliceBound, asIntOf, sizeOf, typeInfo, hi, hz1, hik, hk4, Sem.run_bind]
  · obtain ⟨_, h1, h2, h3⟩ := hv.at_
    have hs := sub_length (l := l) (i := i) (k := k) (by omega)
    exact ⟨_, _, by rw [hs], by omega, by omega, h3.sub i k c hik (by omega) (by omega)⟩
theorem cut_h (A : Option Addr) (c L k : Nat) (hk : k ≤ L) (hc : L ≤ c) : ∃ A' c', (∀ w, cutH (.slice A L c) (.int .i64 (k : Int)) w = .ok (.value (.slice A' k c')) w) ∧ ∀ w l, l.length = L → Byt w (.slice A L c) l → Byt w (.slice A' k c') (l.take k) := by
  refine ⟨if c = 0 then A else A.map (·.add 0), c, fun w => ?_, fun w l hl hv => ?_⟩
  · obtain ⟨i0, hi, hz0, hz1, hz2⟩ := info_parts info_u8
    have hk4 : k ≤ c := by omega
    unfold cutH execOp
    simp [Instr.sliceAt, Instr.slice, run_underlying under_bytes, Instr.sliceBounds, Instr.sliceBound, asIntOf, sizeOf, typeInfo, hi, hk4, Sem.run_bind]
  · obtain ⟨_, h1, h2, h3⟩ := hv.at_
    have hs := sub_length (l := l) (i := 0) (k := k) (by omega)
    have h4 := h3.sub 0 k c (Nat.zero_le _) (by omega) (by omega)
    rw [List.drop_zero, Nat.sub_zero] at h4 hs
    exact ⟨_, _, by rw [hs], by omega, by omega, h4⟩
theorem cut_l (A : Option Addr) (c L i : Nat) (hi : i ≤ L) (hc : L ≤ c) : ∃ A' c', (∀ w, cutL (.slice A L c) (.int .i64 (i : Int)) w = .ok (.value (.slice A' (L - i) c')) w) ∧ ∀ w l, l.length = L → Byt w (.slice A L c) l → Byt w (.slice A' (L - i) c') (l.drop i) := by
  refine ⟨if c = i then A else A.map (·.add i), c - i, fun w => ?_, fun w l hl hv => ?_⟩
  · obtain ⟨i0, hi0, hz0, hz1, hz2⟩ := info_parts info_u8
    unfold cutL execOp
    simp [Instr.sliceAt, Instr.slice, run_underlying under_bytes, Instr.sliceBounds, Instr.sliceBound, asIntOf, sizeOf, typeInfo, hi0, hz1, hi, Sem.run_bind]
  · obtain ⟨_, h1, h2, h3⟩ := hv.at_
    have hs := sub_length (l := l) (i := i) (k := l.length) (by omega)
    have h4 := h3.sub i l.length c (by omega) (by omega) (by omega)
    have e : (l.drop i).take (l.length - i) = l.drop i := List.take_of_length_le (by rw [List.length_drop]; omega)
    rw [e] at h4 hs
    exact ⟨_, _, by rw [hs, hl], by omega, by omega, h4⟩

/-- A list in a new block: its block and its cells. -/
theorem new_cell (w : World) (C : Array Value) (T : TypeId) (i : Nat) (v : Value) (h : C[i]? = some v) : (w.alloc (.cells C T)).cell? ⟨w.heap.size, i, none⟩ = some v := by
  rw [cell_of_row _ _ _ _ _ (0, 0) (heap_alloc_new w _)]
  exact h
theorem new_cell_drew (w : World) (C : Array Value) (T : TypeId) (i : Nat) (v : Value) (h : C[i]? = some v) : (w.alloc (.cells C T)).drew.cell? ⟨w.heap.size, i, none⟩ = some v := new_cell w C T i v h
theorem cut_three (l : List UInt8) {i k : Nat} (hik : i ≤ k) : l.take i ++ ((l.drop i).take (k - i) ++ l.drop k) = l := by
  have e : l.drop k = (l.drop i).drop (k - i) := by rw [List.drop_drop]; congr 1; omega
  rw [e, List.take_append_drop, List.take_append_drop]

end Go.Proofs.YtefngncieagobaaDoor

/-
  Slices of bytes cut in three ways, each kept whole under a name; the sum of one, two and three parts. And arrays that are the same.
-/
namespace Go.Proofs.YtefngncieagobaaDoor
open Go.RowKit

/-- A type's number under a name: a load of a long array that stands several times in one region is then told by an equation. -/
def tyHide (T : TypeId) (_ : Nat) : TypeId := T
theorem exec_load_hide (T : TypeId) (k : Nat) (r : Operand → Value) (x : Operand) (dst : Option Tmp) (ty : TypeId) (pos : String) (after : Array Edge) (guard : Option (Nat × Bool)) (w : World) :
    Sem.run Tryd.prog (execOp r { dst := dst, op := .load (tyHide T k) x, type := ty, pos := pos, after := after, guard := guard }) w = loadA (tyHide T k) (r x) w := rfl
theorem tyHide_load {T : TypeId} {k : Nat} (h : T = k) (x : Operand) : Op.load k x = Op.load (tyHide T k) x := by
  unfold tyHide
  rw [h]
theorem loadA_hide {T k : TypeId} {E : TypeId} {n : Nat} {z : Value} (h : T = k) (H : ArrT k E n z) {w : World} {g N o : Nat} {f f' : Nat → Value} {t : TypeId} (hg : Blk w g N f t) (ho : o + n ≤ N) (e : ∀ j, j < n → f (o + j) = f' j) :
    loadA (tyHide T k) (.pointer (some ⟨g, o, none⟩)) w = .ok (.value (.agg (fcells n f'))) w := by
  unfold tyHide
  rw [h]
  exact loadA_eq H hg ho e

/-- The sum of two parts, and of three, that lie in a block. -/
theorem of_two (v0 v1 : Value) (l0 l1 : List UInt8) (gp c : Nat) (w : World) (hg : gp < w.heap.size) (h0 : w.cell? ⟨gp, 0, none⟩ = some v0) (h1 : w.cell? ⟨gp, 1, none⟩ = some v1) (b0 : Byt w v0 l0) (b1 : Byt w v1 l1)
    {l : List UInt8} (hl : l0 ++ l1 = l) (hs : l.length ≤ 1000000) (hK : Kst 1 w) :
    Calls Tryd.prog 21 #[.slice (some ⟨gp, 0, none⟩) 2 c] w fun e w' => e = .returned (.agg (fcells 32 fun j => bcell (sumS l j))) ∧ Below w.heap.size w w' := by
  have e : ([l0, l1] : List (List UInt8)).flatten = l := by simp [hl]
  have h := of_any [l0, l1] (fun j => if j = 0 then v0 else v1) gp 2 c w rfl hg (fun j hj => by
    obtain rfl | rfl : j = 0 ∨ j = 1 := by omega
    · exact h0
    · exact h1) (fun j hj => by
    have hj2 : j < 2 := hj
    obtain rfl | rfl : j = 0 ∨ j = 1 := by omega
    · exact b0
    · exact b1) (by rw [e]; omega) (by omega) hK
  rw [e] at h
  exact h
theorem of_three (v0 v1 v2 : Value) (l0 l1 l2 : List UInt8) (gp c : Nat) (w : World) (hg : gp < w.heap.size) (h0 : w.cell? ⟨gp, 0, none⟩ = some v0) (h1 : w.cell? ⟨gp, 1, none⟩ = some v1) (h2 : w.cell? ⟨gp, 2, none⟩ = some v2) (b0 : Byt w v0 l0) (b1 : Byt w v1 l1) (b2 : Byt w v2 l2)
    {l : List UInt8} (hl : l0 ++ (l1 ++ l2) = l) (hs : l.length ≤ 1000000) (hK : Kst 1 w) :
    Calls Tryd.prog 21 #[.slice (some ⟨gp, 0, none⟩) 3 c] w fun e w' => e = .returned (.agg (fcells 32 fun j => bcell (sumS l j))) ∧ Below w.heap.size w w' := by
  have e : ([l0, l1, l2] : List (List UInt8)).flatten = l := by simp [hl]
  have h := of_any [l0, l1, l2] (fun j => if j = 0 then v0 else if j = 1 then v1 else v2) gp 3 c w rfl hg (fun j hj => by
    obtain rfl | rfl | rfl : j = 0 ∨ j = 1 ∨ j = 2 := by omega
    · exact h0
    · exact h1
    · exact h2) (fun j hj => by
    have hj2 : j < 3 := hj
    obtain rfl | rfl | rfl : j = 0 ∨ j = 1 ∨ j = 2 := by omega
    · exact b0
    · exact b1
    · exact b2) (by rw [e]; omega) (by omega) hK
  rw [e] at h
  exact h

theorem hash_same (D : Array Value) (f : Nat → UInt8) (h : fcells 32 (fun j => bcell (f j)) = D) (w : World) : (Op.equalIn 10000 31 (.agg D) (.agg D)).run Tryd.prog w = .ok true w := by
  subst h
  exact arrH.eq_self (k := .u8) (by kernel_rfl) (a := fun i => ((f i).toNat : Int)) (fun _ _ => rfl) w
end Go.Proofs.YtefngncieagobaaDoor
