/-
  keys.Tag gives the tag of its parts, one behind the other.
-/
import Derived.Test.YtakigopjbbhjkaaDoorKey
import Derived.Test.YtakigopjbbhjkaaDoorMacOf
namespace Go.Proofs.YtakigopjbbhjkaaDoor
open Go.RowKit

/-- The tag of bytes. -/
def tagF (i : Int) (d : UInt8) (text : List UInt8) : Nat → UInt8 := if nodeB i = true then macS (hl 32 (keyF i)) (d :: text) else fun _ => 0
theorem tagF_no {i : Int} (h : nodeB i = false) (d : UInt8) (text : List UInt8) : tagF i d text = fun _ => 0 := if_neg (by rw [h]; decide)
theorem tagF_yes {i : Int} (h : nodeB i = true) (d : UInt8) (text : List UInt8) : tagF i d text = macS (hl 32 (keyF i)) (d :: text) := if_pos h

theorem one_val2 (w : World) (o : Obj) (x : Value) (T : TypeId) : ∀ j u, ([x] : List Value)[j]? = some u → ((w.alloc o).alloc (.cells #[x] T)).cell? ((⟨w.heap.size + 1, 0, none⟩ : Addr).add j) = some u := fun j u h => by
  have := one_val (w.alloc o) x T j u h
  rw [show (w.alloc o).heap.size = w.heap.size + 1 from by simp] at this
  exact this
theorem below_two {w w1 : World} (h : Below w.heap.size w w1) (o o2 : Obj) : Below w.heap.size w ((w1.alloc o).alloc o2) := (h.alloc h.size _).alloc (by have := h.size; simp; omega) _
theorem one_byt2 {w : World} (o2 : Obj) (d : UInt8) : Byt ((w.alloc (.cells #[.int .u8 (d.toNat : Int)] 5)).alloc o2) (.slice (some ⟨w.heap.size, 0, none⟩) 1 1) [d] := (byt_one w _ d rfl).alloc _

/-- A row of the call's own of one type lies apart from a block of another type. -/
theorem apart_row {w : World} {B n size g : Nat} {T U : TypeId} {v : Value} {xs : List Value} {C : Array Value} (hT : T ≠ U) (h : w.ownsRow B T size v n xs) (hg : w.heap[g]? = some (.cells C U)) : v.ownBlock ≠ some g := fun e => by
  rcases h.2 with ⟨rfl, _⟩ | ⟨k, cap, cur, rfl, _, hh, _⟩
  · cases e
  · injection e with e
    subst e
    rw [hh] at hg
    injection hg with hg
    injection hg with _ h2
    exact hT h2
/-- The byte of the domain, behind the two appends. -/
theorem domain_byt {w3 w4 w5 : World} {B : Nat} {x : Int} {d : UInt8} {o2 : Obj} {r4 v4 : Value} {k5 : Nat} {xs : List Value} (hx : (d.toNat : Int) = x)
    (hg4 : ((w3.alloc (.cells #[.int .u8 x] 5)).alloc o2).grownBy w4 r4.ownBlock) (hr4 : ∀ k, r4.ownBlock = some k → k < w3.heap.size) (hown4 : w4.ownsRow B 26 1 v4 k5 xs) (hg5 : w4.grownBy w5 v4.ownBlock) :
    Byt w5 (.slice (some ⟨w3.heap.size, 0, none⟩) 1 1) [d] := by
  have h0 : ((w3.alloc (.cells #[.int .u8 x] 5)).alloc o2).heap[w3.heap.size]? = some (.cells #[.int .u8 x] 5) := heap1 w3 _ o2
  have h4 := (hg4.block w3.heap.size (by simp; omega) (fun e => by have := hr4 _ e.symm; omega)).trans h0
  have h5 := (hg5.block w3.heap.size (lt_of_block h4) (fun e => apart_row (U := 5) (by decide) hown4 h4 e.symm)).trans h4
  have hb := byt_row (l := [d]) (T := 5) (m := (0, 0)) (w := w5) (g := w3.heap.size) (by rw [h5, ← hx]; rfl) (by show 1 ≤ maxLen; unfold maxLen; omega)
  exact hb

/-- The result's block and the key's. -/
theorem tag_begun {w w1 w2 : World} {f : Nat → Value} (hR1 : Blk w1 w.heap.size 32 (fun _ => bcell 0) 23) (hb1 : Below w.heap.size w w1)
    (hg2 : (w1.alloc (.cells (fcells 32 fun _ => bcell 0) 23)).grownBy w2 (some w1.heap.size)) (hH2 : Blk w2 w1.heap.size 32 f 23) :
    Blk w2 w.heap.size 32 (fun _ => bcell 0) 23 ∧ Below w.heap.size w w2 ∧ w1.heap.size < w2.heap.size :=
  ⟨(hR1.alloc (.cells (fcells 32 fun _ => bcell 0) 23)).grown hg2 (fun e => by have := Option.some.inj e; have := hR1.lt; omega),
   (hb1.alloc hb1.size (.cells (fcells 32 fun _ => bcell 0) 23)).grown hg2 (by have := hb1.size; simp; omega) (fun k hk => by injection hk; have := hb1.size; omega), hH2.lt⟩

set_option maxHeartbeats 3200000 in
theorem tag_any (i : Int) (d : UInt8) (ls : List (List UInt8)) (vs : Nat → Value) (gp n c : Nat) (w : World) (hn : ls.length = n) (hg : gp < w.heap.size)
    (hc : ∀ j, j < n → w.cell? ⟨gp, j, none⟩ = some (vs j)) (hvs : ∀ j (h : j < ls.length), Byt w (vs j) ls[j]) (hls : ls.flatten.length ≤ 1000000) (hn2 : n ≤ 800) (hK : Kst 1 w) :
    Calls Tryd.prog 6 #[.int .i64 i, .int .u8 (d.toNat : Int), .slice (some ⟨gp, 0, none⟩) n c] w fun e w' => e = .returned (.agg (fcells 32 fun j => bcell (tagF i d ls.flatten j))) ∧ Below w.heap.size w w' := by
  have hb0 : Below w.heap.size w (w.alloc (.cells (fcells 32 fun _ => bcell 0) 23)) := (Below.refl _ _).alloc (Nat.le_refl _) _
  have hR0 : Blk (w.alloc (.cells (fcells 32 fun _ => bcell 0) 23)) w.heap.size 32 (fun _ => bcell 0) 23 := Blk.new w _ _ _
  cases hnode : nodeB i
  · rw [tagF_no hnode]
    have C := fun w => node_any i w
    rw [hnode] at C
    have HC := hid C
    clear C hn hc hvs
    go_enter Tryd.func6, Tryd.ntmps6
    go_wp2_with (refine wpList_alloc_arr arrH rfl rfl ?_)
    refine (HC.out _).mono ?_
    rintro e w' ⟨rfl, rfl⟩
    go_wp2_with (first
      | (refine wpList_zero_arr arrH rfl rfl ?_)
      | (refine wpList_store_arr arrH rfl _ _ rfl rfl rfl hR0 (fun _ _ => rfl) ?_; intro w9 hg9 hA9 hs9))
    refine bodyPost_ret (arrH.result rfl _ _ rfl hA9) rfl ⟨rfl, ?_⟩
    exact below_into hb0 (g := w.heap.size) (by omega) hg9 hb0.size
  · rw [tagF_yes hnode]
    have C := fun w => node_any i w
    rw [hnode] at C
    have HC := hid C
    have HN := hid hn
    have HCC := hid hc
    have HVS := hid hvs
    have HLS := hid hls
    clear C hn hc hvs hls
    obtain ⟨x, HX⟩ : ∃ x : Int, Hid ((d.toNat : Int) = x) := ⟨_, hid rfl⟩
    rw [HX.out]
    go_enter Tryd.func6, Tryd.ntmps6
    go_wp2_with (refine wpList_alloc_arr arrH rfl rfl ?_)
    refine (HC.out _).mono ?_
    rintro e w' ⟨rfl, rfl⟩
    clear HC
    generalize w.alloc (.cells (fcells 32 fun _ => bcell 0) 23) = w0 at *
    go_wp2_with fail
    refine (key_any i w0 (hK.below hb0)).mono ?_
    rintro e w1 ⟨rfl, hb1⟩
    have hR1 := hR0.keep hb1
    have hb1' := hb0.trans (hb1.mono hb0.size)
    clear hb0 hR0 hb1
    obtain ⟨i0, hi, hz0, hz1, hz2⟩ := info_parts info_bs
    have hbb2 : i0.bytes * (n + 1) ≤ 281474976710656 := by rw [hz2]; omega
    have hbb3 : n + 1 ≤ maxLen := by unfold maxLen; omega
    have hnb : (1 + n) * 24 ≤ 140737488355328 := by omega
    have hnm : 1 + n ≤ maxLen := by unfold maxLen; omega
    have hvo : ∀ u ∈ (List.range n).map vs, u.oneCell' = true := fun u hu => by
      obtain ⟨j, hj, rfl⟩ := List.mem_map.1 hu
      have hj2 := List.mem_range.1 hj
      exact byt_one' (HVS.out j (by rw [HN.out]; exact hj2))
    have HVO := hid hvo
    clear hvo
    go_wp2_with (first
      | (refine wpList_alloc_arr arrH rfl rfl ?_)
      | (refine wpList_store_arr arrH rfl (.tmp 7) (.tmp 14) rfl rfl rfl (Blk.new w1 32 (fun _ => bcell 0) 23) (fun _ _ => rfl) ?_; intro w2 hg2 hH2 hs2; obtain ⟨hR2, hb2, hK2⟩ := tag_begun hR1 hb1' hg2 hH2; clear hg2 hs2)
      | (at_make; refine wpList_make_own _ rfl _ _ 39 rfl w2.heap.size 26 i0 (.slice none 0 0) 1 under_bs hi hz0 hz1 _ _ _ (n + 1) rfl rfl (by simp) hbb2 hbb3 (Nat.le_refl _) ?_; intro w3 hown3 hg3; have hs3 := hg3.size; have hbc3 : Below w2.heap.size w2 w3 := (Below.refl _ _).grown hg3 (Nat.le_refl _) (fun k h => by cases h))
      | (at_builtin; refine wpList_append_own _ rfl (.tmp 19) (.tmp 22) 39 rfl w2.heap.size 26 i0 (.slice none 0 0) 1 24 under_bs hi hz0 hz1 hz2 rfl (by decide) _ _ _ rfl ((hown3.alloc (.cells #[.int .u8 x] 5)).alloc (.cells #[.slice (some ⟨w3.heap.size, 0, none⟩) 1 1] 26)) ⟨w3.heap.size + 1, 0, none⟩ 1 1 [.slice (some ⟨w3.heap.size, 0, none⟩) 1 1] rfl rfl (one_val2 w3 _ _ _) (by simp [Value.oneCell']) (by unfold maxLen; omega) (by omega) (by simp; omega) ?_; intro v4 w4 hown4 hg4 _; simp only [Nat.zero_add, List.nil_append] at hown4; have hs4 := hg4.size; simp only [size_alloc] at hs4; have hbc4 : Below w2.heap.size w2 w4 := (below_two hbc3 _ _).grown hg4 (by simp; omega) (fun k hk => (World.ownsRow.lt hown3 k hk).1))
      | (at_builtin; refine wpList_append_own _ rfl (.tmp 24) (.tmp 25) 39 rfl w2.heap.size 26 i0 (.slice none 0 0) 1 24 under_bs hi hz0 hz1 hz2 rfl (by decide) _ _ _ rfl hown4 ⟨gp, 0, none⟩ n c ((List.range n).map vs) rfl (by simp) (vals_at HCC.out (hb2.trans (hbc4.mono hb2.size)) hg) HVO.out hnm hnb (by omega) ?_; intro v5 w5 hown5 hg5 _; have hs5 := hg5.size; have hbc5 : Below w2.heap.size w2 w5 := hbc4.grown hg5 (by omega) (fun k hk => (World.ownsRow.lt hown4 k hk).1)))
    have hR5 := hR2.keep hbc5
    have hH5 := hH2.keep hbc5
    have hbw5 := hb2.trans (hbc5.mono hb2.size)
    have hd5 := domain_byt HX.out hg4 (fun k hk => (World.ownsRow.lt hown3 k hk).2) hown4 hg5
    have hKw5 := hK.below hbw5
    obtain ⟨g5, c5, hg5', hv5, hc5⟩ : ∃ g c, g < w5.heap.size ∧ v5 = .slice (some ⟨g, 0, none⟩) (1 + n) c ∧ ∀ j, j < 1 + n → w5.cell? ⟨g, j, none⟩ = ([.slice (some ⟨w3.heap.size, 0, none⟩) 1 1] ++ (List.range n).map vs)[j]? := by
      rcases hown5.2 with ⟨_, h0⟩ | ⟨g, cap, cur, rfl, _, hh, _⟩
      · omega
      · exact ⟨g, cap, lt_of_block hh, rfl, fun j hj => World.ownsRow.cellAt hown5 j (by omega)⟩
    subst hv5
    clear hown5 hown4 hown3 hg3 hg4 hg5 hs3 hs4 hs5 hbc3 hbc4 hR2 hH2 hb2 hi hz0 hz1 hz2 hbb2 hbb3 hnb hnm
    have hfl : ([d] :: ls).flatten = d :: ls.flatten := rfl
    have C := macOf_any (.slice (some ⟨w1.heap.size, 0, none⟩) 32 32) (hl 32 (keyF i)) ([d] :: ls) (fun j => if j = 0 then .slice (some ⟨w3.heap.size, 0, none⟩) 1 1 else vs (j - 1)) g5 (1 + n) c5 w5 (byt_blk hH5 (by unfold maxLen; omega)) (by rw [hl_length]; omega) (by rw [List.length_cons, HN.out, Nat.add_comm]) hg5' (fun j hj => by
      rw [hc5 j hj]
      rcases j with _ | j
      · rfl
      · show ((List.range n).map vs)[j]? = some (vs (j + 1 - 1))
        rw [List.getElem?_map, List.getElem?_range (by omega)]
        rfl) (fun j hj => by
      rcases j with _ | j
      · exact hd5
      · have hj2 : j < ls.length := by simpa using hj
        exact (HVS.out j hj2).below hbw5) (by rw [hfl, List.length_cons]; have := HLS.out; omega) (by omega) hKw5
    rw [hfl] at C
    refine C.mono ?_
    clear C hc5 hfl hd5
    rintro e w6 ⟨rfl, hb6⟩
    have hR6 := hR5.keep hb6
    have hbw6 := hbw5.trans (hb6.mono hbw5.size)
    clear hR5 hH5 hbw5 hKw5 hb6 hbc5
    go_wp2_with (refine wpList_store_arr arrH rfl _ _ rfl rfl rfl hR6 (fun _ _ => rfl) ?_; intro w9 hg9 hA9 hs9)
    refine bodyPost_ret (arrH.result rfl _ _ rfl hA9) rfl ⟨rfl, ?_⟩
    exact below_into hbw6 (g := w.heap.size) (Nat.le_refl _) hg9 hbw6.size
end Go.Proofs.YtakigopjbbhjkaaDoor
