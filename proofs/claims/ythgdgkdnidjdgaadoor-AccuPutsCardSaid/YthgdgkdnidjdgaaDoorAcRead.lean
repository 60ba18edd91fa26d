/-
  tithingref10.Read: the accumulation that bytes begin with. Printed with genacread.py.
-/
import Derived.Test.YthgdgkdnidjdgaaDoorAcRd
import Derived.Test.YthgdgkdnidjdgaaDoorBs6
import Derived.LoopTactic
namespace Go.Proofs.YthgdgkdnidjdgaaDoor
set_option maxRecDepth 20000
open Go.RowKit
attribute [local go_sem ↓] exec_load_ax exec_alloc_ax exec_store_ax exec_build_ax

/-- Two results that lie in memory, and one that doesn't. -/
theorem results_rx {fn : Func} {p q s : Tmp} (h : fn.results = #[.cell p 46, .cell q 30, .tmp s]) (tmps : Array Value) (w : World) (g1 g2 : Nat) (t1 t2 : TypeId) (xs ys : Array Value) (v : Value)
    (hp : tmps.getD p undef = .pointer (some ⟨g1, 0, none⟩)) (hq : tmps.getD q undef = .pointer (some ⟨g2, 0, none⟩)) (hv : tmps.getD s undef = v) (h1 : w.heap[g1]? = some (.cells xs t1 (0, 0))) (h2 : w.heap[g2]? = some (.cells ys t2 (0, 0))) (hx : xs.size = 3) (hy : ys.size = 68) :
    (results fn tmps).run Tryd.prog w = .ok (.tuple #[.agg xs, .agg ys, v]) w := by
  have hp' : tmps[p]?.getD undef = .pointer (some ⟨g1, 0, none⟩) := by simpa using hp
  have hq' : tmps[q]?.getD undef = .pointer (some ⟨g2, 0, none⟩) := by simpa using hq
  have hv' : tmps[s]?.getD undef = v := by simpa using hv
  have r1 := run_loadVar_row (P := Tryd.prog) w g1 t1 46 xs (0, 0) _ h1 under_ref rfl (by rw [size_ref, hx])
  have r2 := run_loadVar_row (P := Tryd.prog) w g2 t2 30 ys (0, 0) _ h2 under_ax rfl (by rw [size_ax, hy])
  simp [results, h, hp', hq', hv', asAddr, r1, r2]

/-- What Read tells. -/
def XrPost (A : Option Addr) (c p : Nat) (r : Bool) (l : List UInt8) (w : World) (e : Ending) (w' : World) : Prop :=
  ∃ x, e = .returned (.tuple #[rv A l.length c (rawX l p r).2.1 (!(rawX l p r).2.2), x, .bool (acIs l p r)]) ∧ AcV w' x (acOf l p r) ∧ Below w.heap.size w w'
section
variable {A : Option Addr} {c p q : Nat} {r t : Bool} {l : List UInt8} {w w' : World} {cc : AcM} {s : Value}
theorem xrPost_no (hr : rawX l p r = (cc, q, t)) (hi : acIs l p r = false) (hb : Below w.heap.size w w') : XrPost A c p r l w (.returned (.tuple #[rv A l.length c q (!t), .agg (axc acZ (.slice none 0 0)), .bool false])) w' := by
  refine ⟨.agg (axc acZ (.slice none 0 0)), ?_, ?_, hb⟩
  · rw [hr, hi]
  · unfold acOf
    rw [hi, if_neg (by decide)]
    exact ⟨_, rfl, acZ_ok, Els.nil w'⟩
theorem xrPost_yes (hr : rawX l p r = (cc, q, true)) (hi : acIs l p r = true) (ho : cc.Ok) (hs : Els icl 1 w' s cc.fr) (hb : Below w.heap.size w w') : XrPost A c p r l w (.returned (.tuple #[rv A l.length c q false, .agg (axc cc s), .bool true])) w' := by
  refine ⟨.agg (axc cc s), ?_, ?_, hb⟩
  · rw [hr, hi]
    rfl
  · unfold acOf
    rw [hi, if_pos rfl, hr]
    exact ⟨_, rfl, ho, hs⟩
end

set_option maxHeartbeats 12800000 in
theorem refRead10_post (A : Option Addr) (c p : Nat) (r : Bool) (l : List UInt8) (w : World) (hv : Byt w (.slice A l.length c) l) (hp : p ≤ l.length) (hl : l.length ≤ 1000000) :
    Calls Tryd.prog 15 #[rv A l.length c p (!r)] w (XrPost A c p r l w) := by
  have HH := hid (fun p r (hp : p ≤ l.length) (w' : World) (hb : Below w.heap.size w w') => refHash_any A c p r l w' (hv.below hb) hp (by omega))
  have HU := hid (fun p r (hp : p ≤ l.length) m (h1 : -9223372036854775808 ≤ m) (h2 : m ≤ 9223372036854775807) (w' : World) (hb : Below w.heap.size w w') => refUpto_any A c p r l m w' (hv.below hb) hp (by omega) h1 h2)
  obtain ⟨Z, HZ⟩ : ∃ C : Array Value, Hid (axc acZ (.slice none 0 0) = C) := ⟨_, hid rfl⟩
  have hbz : ∀ W, buildAx W = .ok (.value (.agg Z)) W := fun W => by rw [← HZ.out]; exact buildAx_eq W
  have hal : ∀ W, allocAx W = .ok (.value (.pointer (some ⟨W.heap.size, 0, none⟩))) (W.alloc (.cells Z 30)) := fun W => by rw [← HZ.out]; exact allocAx_eq W
  have hsz : Z.size = 68 := by rw [← HZ.out]; exact axc_size _ acZ_ok
  have hz1 : Z.all (·.oneCell') = true := by rw [← HZ.out]; exact axc_one (w := w) (a := acZ) (Els.nil w)
  have hst0 := AxSt.new w (.slice A l.length c) (.int .i64 (p : Int)) (.bool (!r))
  rw [HZ.out] at hst0
  have hs0 : storeAx (.pointer (some ⟨w.heap.size + 1 + 1 + 1, 0, none⟩)) (.agg Z) ((((w.alloc (.cells #[.slice A l.length c, .int .i64 (p : Int), .bool (!r)] 46)).alloc (.cells #[.slice none 0 0, .int .i64 0, .bool false] 46)).alloc (.cells Z 30)).alloc (.cells Z 30)) = .ok .skip ((((w.alloc (.cells #[.slice A l.length c, .int .i64 (p : Int), .bool (!r)] 46)).alloc (.cells #[.slice none 0 0, .int .i64 0, .bool false] 46)).alloc (.cells Z 30)).alloc (.cells Z 30)) := by
    have hg : BoxX _ _ acZ _ := hst0.b3
    unfold BoxX at hg
    rw [HZ.out] at hg
    rw [storeAx_eq hg hsz hsz hz1, setAx_self hg]
  have HSZ := hid hsz
  have HZ1 := hid hz1
  have HBZ := hid hbz
  clear hv hsz hz1
  unfold rv
  go_enter Tryd.func15, Tryd.ntmps15
  go_wp2_with fail
  obtain ⟨a1, p1, r1, HA1⟩ : ∃ x q s, Hid (rdUpto 21 l p r = (x, q, s)) := ⟨_, _, _, hid rfl⟩
  have hp1 : p1 ≤ l.length := by have := rdUpto_pl (m := 21) (r := r) hp; rw [HA1.out] at this; exact this
  have C := HU.out p r hp 21 (by omega) (by omega) _ (hst0).bel
  rw [HA1.out] at C
  refine C.mono ?_
  clear C
  rintro e w1 ⟨rfl, hb⟩
  have hst : AxSt w w1 (.slice A l.length c) (.int .i64 (p : Int)) (.bool (!r)) ⟨0, 0, 0, z32, [], z32⟩ (.slice none 0 0) := (hst0).below hb
  clear hb hst0 hs0 hbz hal
  obtain ⟨⟨c0, c1, c2⟩, ⟨k0, k1, k2, k5⟩, g0, g3⟩ := hst.cells ⟨rfl, rfl⟩
  have HST := hid hst
  clear hst
  unfold rv
  go_wp2_with fail
  obtain ⟨a2, p2, r2, HA2⟩ : ∃ x q s, Hid (rdUpto 1099511627776 l p1 r1 = (x, q, s)) := ⟨_, _, _, hid rfl⟩
  have hp2 : p2 ≤ l.length := by have := rdUpto_pl (m := 1099511627776) (r := r1) hp1; rw [HA2.out] at this; exact this
  have C := HU.out p1 r1 hp1 1099511627776 (by omega) (by omega) _ (((HST.out.put (.slice A l.length c) (.int .i64 (p1 : Int)) (.bool (!r1))).cell (b := ⟨(a1 : Int), 0, 0, z32, [], z32⟩) (t := (.slice none 0 0)) (v := .int .i64 (a1 : Int)) 0 rfl)).bel
  rw [HA2.out] at C
  refine C.mono ?_
  clear C
  rintro e w2 ⟨rfl, hb⟩
  have hst : AxSt w w2 (.slice A l.length c) (.int .i64 (p1 : Int)) (.bool (!r1)) ⟨(a1 : Int), 0, 0, z32, [], z32⟩ (.slice none 0 0) := (((HST.out.put (.slice A l.length c) (.int .i64 (p1 : Int)) (.bool (!r1))).cell (b := ⟨(a1 : Int), 0, 0, z32, [], z32⟩) (t := (.slice none 0 0)) (v := .int .i64 (a1 : Int)) 0 rfl)).below hb
  clear hb HST c0 c1 c2 k0 k1 k2 k5 g0 g3
  obtain ⟨⟨c0, c1, c2⟩, ⟨k0, k1, k2, k5⟩, g0, g3⟩ := hst.cells ⟨rfl, rfl⟩
  have HST := hid hst
  clear hst
  unfold rv
  go_wp2_with fail
  obtain ⟨a3, p3, r3, HA3⟩ : ∃ x q s, Hid (rdUpto 1099511627776 l p2 r2 = (x, q, s)) := ⟨_, _, _, hid rfl⟩
  have hp3 : p3 ≤ l.length := by have := rdUpto_pl (m := 1099511627776) (r := r2) hp2; rw [HA3.out] at this; exact this
  have C := HU.out p2 r2 hp2 1099511627776 (by omega) (by omega) _ (((HST.out.put (.slice A l.length c) (.int .i64 (p2 : Int)) (.bool (!r2))).cell (b := ⟨(a1 : Int), (a2 : Int), 0, z32, [], z32⟩) (t := (.slice none 0 0)) (v := .int .i64 (a2 : Int)) 1 rfl)).bel
  rw [HA3.out] at C
  refine C.mono ?_
  clear C
  rintro e w3 ⟨rfl, hb⟩
  have hst : AxSt w w3 (.slice A l.length c) (.int .i64 (p2 : Int)) (.bool (!r2)) ⟨(a1 : Int), (a2 : Int), 0, z32, [], z32⟩ (.slice none 0 0) := (((HST.out.put (.slice A l.length c) (.int .i64 (p2 : Int)) (.bool (!r2))).cell (b := ⟨(a1 : Int), (a2 : Int), 0, z32, [], z32⟩) (t := (.slice none 0 0)) (v := .int .i64 (a2 : Int)) 1 rfl)).below hb
  clear hb HST c0 c1 c2 k0 k1 k2 k5 g0 g3
  obtain ⟨⟨c0, c1, c2⟩, ⟨k0, k1, k2, k5⟩, g0, g3⟩ := hst.cells ⟨rfl, rfl⟩
  have HST := hid hst
  clear hst
  unfold rv
  go_wp2_with fail
  obtain ⟨h4, p4, r4, HA4⟩ : ∃ x q s, Hid (rdHash l p3 r3 = (x, q, s)) := ⟨_, _, _, hid rfl⟩
  have hp4 : p4 ≤ l.length := by have := rdHash_pl8 (l := l) (p := p3) (r := r3) hp3; rw [HA4.out] at this; exact this
  have HL4 : Hid (h4.length = 32) := hid (by have := rdHash_32 l p3 r3; rw [HA4.out] at this; exact this)
  have C := HH.out p3 r3 hp3 _ (((HST.out.put (.slice A l.length c) (.int .i64 (p3 : Int)) (.bool (!r3))).cell (b := ⟨(a1 : Int), (a2 : Int), (a3 : Int), z32, [], z32⟩) (t := (.slice none 0 0)) (v := .int .i64 (a3 : Int)) 2 rfl)).bel
  rw [HA4.out] at C
  refine C.mono ?_
  clear C
  rintro e w4 ⟨rfl, hb⟩
  have hst : AxSt w w4 (.slice A l.length c) (.int .i64 (p3 : Int)) (.bool (!r3)) ⟨(a1 : Int), (a2 : Int), (a3 : Int), z32, [], z32⟩ (.slice none 0 0) := (((HST.out.put (.slice A l.length c) (.int .i64 (p3 : Int)) (.bool (!r3))).cell (b := ⟨(a1 : Int), (a2 : Int), (a3 : Int), z32, [], z32⟩) (t := (.slice none 0 0)) (v := .int .i64 (a3 : Int)) 2 rfl)).below hb
  clear hb HST c0 c1 c2 k0 k1 k2 k5 g0 g3
  obtain ⟨⟨c0, c1, c2⟩, ⟨k0, k1, k2, k5⟩, g0, g3⟩ := hst.cells ⟨rfl, rfl⟩
  have HST := hid hst
  clear hst
  unfold rv
  go_wp2_with (refine wpList_store_xpa rfl _ _ rfl rfl rfl (HST.out.put (.slice A l.length c) (.int .i64 (p4 : Int)) (.bool (!r4))).b3 ⟨rfl, rfl⟩ HL4.out ?_; intro wP hgP hbP hsP; have HSP : Hid (AxSt w wP (.slice A l.length c) (.int .i64 (p4 : Int)) (.bool (!r4)) ⟨(a1 : Int), (a2 : Int), (a3 : Int), h4, [], z32⟩ (.slice none 0 0)) := hid ((HST.out.put (.slice A l.length c) (.int .i64 (p4 : Int)) (.bool (!r4))).att hgP hbP); obtain ⟨⟨d0, d1, d2⟩, ⟨e0, e1, e2, e5⟩, f0, f3⟩ := HSP.out.cells ⟨HL4.out, rfl⟩; clear hgP hbP hsP)
  clear HST c0 c1 c2 k0 k1 k2 k5 g0 g3
  obtain ⟨a5, p5, r5, HA5⟩ : ∃ x q s, Hid (rdUpto 21 l p4 r4 = (x, q, s)) := ⟨_, _, _, hid rfl⟩
  have hp5 : p5 ≤ l.length := by have := rdUpto_pl (m := 21) (r := r4) hp4; rw [HA5.out] at this; exact this
  have C := HU.out p4 r4 hp4 21 (by omega) (by omega) _ (HSP.out).bel
  rw [HA5.out] at C
  refine C.mono ?_
  clear C
  rintro e w5 ⟨rfl, hb⟩
  have hst : AxSt w w5 (.slice A l.length c) (.int .i64 (p4 : Int)) (.bool (!r4)) ⟨(a1 : Int), (a2 : Int), (a3 : Int), h4, [], z32⟩ (.slice none 0 0) := (HSP.out).below hb
  clear hb HSP d0 d1 d2 e0 e1 e2 e5 f0 f3
  obtain ⟨⟨c0, c1, c2⟩, ⟨k0, k1, k2, k5⟩, g0, g3⟩ := hst.cells ⟨HL4.out, rfl⟩
  have HST := hid hst
  clear hst
  unfold rv
  have HN21 : Hid (a5 ≤ 21) := hid (by have := rdUpto_le (m := 21) (l := l) (p := p4) (r := r4); rw [show ((21 : Nat) : Int) = 21 from rfl, HA5.out] at this; exact this)
  obtain ⟨a, HAT⟩ : ∃ a : AcM, Hid ((⟨(a1 : Int), (a2 : Int), (a3 : Int), h4, [], z32⟩ : AcM) = a) := ⟨_, hid rfl⟩
  have HOK : Hid a.Ok := hid (by rw [← HAT.out]; exact ⟨HL4.out, rfl⟩)
  have HRAW : Hid (rawX l p r = ({ a with fr := (rdFrs l p5 r5 a5).1, tg := (rdHash l (rdFrs l p5 r5 a5).2.1 (rdFrs l p5 r5 a5).2.2).1 }, (rdHash l (rdFrs l p5 r5 a5).2.1 (rdFrs l p5 r5 a5).2.2).2)) := hid (by rw [← HAT.out]; unfold rawX; simp only [HA1.out, HA2.out, HA3.out, HA4.out, HA5.out])
  go_wp2_with fail
  have HST7 := hid (HST.out.put (.slice A l.length c) (.int .i64 (p5 : Int)) (.bool (!r5)))
  rw [HAT.out] at HST7
  clear HST c0 c1 c2 k0 k1 k2 k5 g0 g3 HA1 HA2 HA3 HA4 HA5 HAT HL4
  go_loopw [7] (fun si wr => ∃ (i : Nat) (s : Value), i ≤ a5 ∧ si = .int .i64 (i : Int) ∧ AxSt w wr (.slice A l.length c) (.int .i64 ((rdFrs l p5 r5 i).2.1 : Int)) (.bool (!(rdFrs l p5 r5 i).2.2)) a s ∧ OwnE icl 1 3 (w.heap.size + 1 + 1 + 1 + 1) wr s (rdFrs l p5 r5 i).1 ∧ (rdFrs l p5 r5 i).2.1 ≤ l.length) (fun si _ => a5 - (intOf si).toNat)
  case atStart => exact ⟨0, _, Nat.zero_le _, rfl, HST7.out, OwnE.nil _ _, hp5⟩
  case round =>
    obtain ⟨i, s, hi, rfl, hst, hown, hpl⟩ := hrel
    by_cases hlt : i < a5
    · obtain ⟨L, q, t, HR⟩ : ∃ x y z, Hid (rdFrs l p5 r5 i = (x, y, z)) := ⟨_, _, _, hid rfl⟩
      have HLN : Hid (L.length ≤ 21) := hid (by have := rdFrs_len l p5 r5 i; rw [HR.out] at this; have := HN21.out; simp only at *; omega)
      rw [HR.out] at hst hown hpl
      simp only at hst hown hpl
      obtain ⟨x8, q8, t8, HA8⟩ : ∃ x y z, Hid (rdUpto 21 l q t = (x, y, z)) := ⟨_, _, _, hid rfl⟩
      have hq8 : q8 ≤ l.length := by have := rdUpto_pl (m := 21) (r := t) hpl; rw [HA8.out] at this; exact this
      have HRN : Hid (rdFrs l p5 r5 (i + 1) = (L ++ [(x8 : Int)], q8, t8)) := hid (by unfold rdFrs; simp only [HR.out, HA8.out])
      have HI : Hid (i < a5) := hid hlt
      have h21 := HN21.out
      have hI : (i : Int) < (a5 : Int) := by omega
      have hlts := hst.lt
      obtain ⟨⟨c0, c1, c2⟩, _, g0, _⟩ := hst.cells HOK.out
      have HSTA := hid hst
      have HOWA := hid hown
      clear hst hown
      have C := HU.out q t hpl 21 (by omega) (by omega) _ HSTA.out.bel
      rw [HA8.out] at C
      go_wp2_with fail
      refine C.mono ?_
      clear C
      rintro e w8 ⟨rfl, hb8⟩
      have hst8 := HSTA.out.below hb8
      have how8 := HOWA.out.below hb8
      clear c0 c1 c2 g0
      have hbA : Below w8.heap.size w8 (w8.alloc (.cells #[.slice A l.length c, .int .i64 (q8 : Int), .bool (!t8)] 46)) := (Below.refl _ _).alloc (Nat.le_refl _) _
      have hst9 := hst8.below hbA
      have hlt9 := hst9.lt
      have HOW9 := hid (how8.below hbA)
      have hrA := heap_alloc_new w8 (.cells #[.slice A l.length c, .int .i64 (q8 : Int), .bool (!t8)] 46)
      have n1 : ¬ w8.heap.size = w.heap.size := by have := hst8.lt; omega
      have n2 : ¬ w.heap.size = w8.heap.size := by have := hst8.lt; omega
      clear how8 hb8 hst8
      unfold rv
      go_upto_region 12 with (fail)
      generalize (w8.alloc (.cells #[.slice A l.length c, .int .i64 (q8 : Int), .bool (!t8)] 46)) = w9 at *
      have d0 := cell_blk hrA 0
      have d1 := cell_blk hrA 1
      have d2 := cell_blk hrA 2
      simp at d0 d1 d2
      obtain ⟨⟨c0, c1, c2⟩, _, g0, _⟩ := hst9.cells HOK.out
      have HSTC := hid (hst9.put (.slice A l.length c) (.int .i64 (q8 : Int)) (.bool (!t8)))
      have HOWC := hid (((HOW9.out.set (g := w.heap.size) (by omega) 0 (.slice A l.length c)).set (g := w.heap.size) (by omega) 1 (.int .i64 (q8 : Int))).set (g := w.heap.size) (by omega) 2 (.bool (!t8)))
      have HLT9 := hid hlt9
      clear hst9 hrA hbA
      go_upto_region 13 with (fail)
      clear d0 d1 d2 c0 c1 c2 g0
      generalize (((w9.setCell ⟨w.heap.size, 0, none⟩ (.slice A l.length c)).setCell ⟨w.heap.size, 1, none⟩ (.int .i64 (q8 : Int))).setCell ⟨w.heap.size, 2, none⟩ (.bool (!t8))) = wB at *
      obtain ⟨_, ⟨_, _, _, k5⟩, _, g3⟩ := HSTC.out.cells HOK.out
      have hob2 : Hid (∀ b, s.ownBlock = some b → w.heap.size + 1 + 1 + 1 < b) := hid (fun b e => (World.ownsRow.lt HOWC.out b e).1)
      go_wp2_with (at_builtin; go_loud (refine eltIc.wpList_append (x := .slice (some ⟨wB.heap.size, 0, none⟩) 1 1) (m := [(x8 : Int)]) rfl (.tmp 52) (.tmp 54) rfl rfl rfl (fun _ _ => trivial) (HOWC.out.alloc _) (els_one wB (x8 : Int) #[.int .i64 (x8 : Int)] 3 rfl) (by have := HLN.out; simp only [List.length_cons, List.length_nil]; omega) (Nat.le_trans HSTC.out.lt (al_le _ _)) ?_; intro v10 w10 ho10 hg10 hv10; have HST11 := hid ((HSTC.out.below ((Below.refl _ _).alloc (Nat.le_refl _) _)).grown hg10 (fun k hk => hob2.out k hk)); obtain ⟨_, ⟨_, _, _, k6⟩, _, g4⟩ := HST11.out.cells HOK.out; obtain ⟨A9, n9, c9, rfl⟩ : ∃ A n c, v10 = .slice A n c := (by obtain ⟨A, c, e⟩ := ho10.shape; exact ⟨_, _, _, e⟩); clear hg10 hv10))
      go_roundw
      case rel =>
        refine ⟨i + 1, .slice A9 n9 c9, by omega, by go_num, ?_, ?_, ?_⟩
        · rw [HRN.out]
          exact HST11.out.cell (t := .slice A9 n9 c9) 35 (axc_fr a _ _ HOK.out)
        · rw [HRN.out]
          exact ho10.set (g := w.heap.size + 1 + 1 + 1) (by omega) 35 _
        · rw [HRN.out]
          exact hq8
      case measure => simp [intOf]; omega
    · obtain rfl : i = a5 := by omega
      have hI : ¬ (i : Int) < (i : Int) := by omega
      obtain ⟨L, q, t, HR⟩ : ∃ x y z, Hid (rdFrs l p5 r5 i = (x, y, z)) := ⟨_, _, _, hid rfl⟩
      obtain ⟨h9, q9, t9, HA9⟩ : ∃ x y z, Hid (rdHash l q t = (x, y, z)) := ⟨_, _, _, hid rfl⟩
      have HRW : Hid (rawX l p r = ({ a with fr := L, tg := h9 }, q9, t9)) := hid (by rw [HRAW.out, HR.out]; simp only [HA9.out])
      rw [HR.out] at hst hown hpl
      simp only at hst hown hpl
      have hq9 : q9 ≤ l.length := by have := rdHash_pl8 (l := l) (p := q) (r := t) hpl; rw [HA9.out] at this; exact this
      have HL9 : Hid (h9.length = 32) := hid (by have := rdHash_32 l q t; rw [HA9.out] at this; exact this)
      have C := HH.out q t hpl _ hst.bel
      rw [HA9.out] at C
      obtain ⟨⟨c0, c1, c2⟩, _, g0, _⟩ := hst.cells HOK.out
      have HSTA := hid hst
      have HOWA := hid hown
      clear hst hown
      obtain ⟨SA, SN, SC, rfl⟩ : ∃ A n c, s = .slice A n c := by obtain ⟨A, c, e⟩ := HOWA.out.shape; exact ⟨_, _, _, e⟩
      go_wp2_with fail
      refine C.mono ?_
      clear C
      rintro e w8 ⟨rfl, hb8⟩
      have HST8 := hid (HSTA.out.below hb8)
      have HOW8 := hid (HOWA.out.below hb8)
      clear c0 c1 c2 g0 hb8
      obtain ⟨⟨c0, c1, c2⟩, _, g0, _⟩ := HST8.out.cells HOK.out
      have HOX : Hid (({ a with fr := L, tg := h9 } : AcM).Ok) := hid ⟨HOK.out.pa, HL9.out⟩
      unfold rv
      go_upto_region 15 with (refine wpList_store_xtg rfl _ _ rfl rfl rfl (HST8.out.put (.slice A l.length c) (.int .i64 (q9 : Int)) (.bool (!t9))).b3 HOK.out HL9.out ?_; intro wP hgP hbP hsP; have HST : Hid (AxSt w wP (.slice A l.length c) (.int .i64 (q9 : Int)) (.bool (!t9)) { a with fr := L, tg := h9 } (.slice SA SN SC)) := hid ((HST8.out.put (.slice A l.length c) (.int .i64 (q9 : Int)) (.bool (!t9))).att hgP hbP); have HOW : Hid (OwnE icl 1 3 (w.heap.size + 1 + 1 + 1 + 1) wP (.slice SA SN SC) L) := hid ((((HOW8.out.set (g := w.heap.size) (by omega) 0 (.slice A l.length c)).set (g := w.heap.size) (by omega) 1 (.int .i64 (q9 : Int))).set (g := w.heap.size) (by omega) 2 (.bool (!t9))).far hgP (by omega)); clear hgP hbP hsP)
      clear c0 c1 c2 g0 HST8 HOW8 HSTA HOWA
      obtain ⟨CA, HCA⟩ : ∃ C : Array Value, Hid (axc { a with fr := L, tg := h9 } (.slice SA SN SC) = C) := ⟨_, hid rfl⟩
      have HCS : Hid (CA.size = 68 ∧ CA.all (·.oneCell') = true) := hid (by rw [← HCA.out]; exact ⟨axc_size _ HOX.out, axc_one (a := { a with fr := L, tg := h9 }) (HOW.out.els eltIc (fun _ _ => trivial))⟩)
      obtain ⟨m, HM⟩ : ∃ b : Bool, Hid (mayX { a with fr := L, tg := h9 } = b) := ⟨_, hid rfl⟩
      have HIS : Hid (acIs l p r = (t9 && m)) := hid (by unfold acIs; rw [HRW.out, HM.out])
      cases t9 with
      | false =>
        have HI : Hid (acIs l p r = false) := hid (by rw [HIS.out]; rfl)
        have hbz := HBZ.out
        have i0 := cell_blk HST.out.b1 0
        have i1 := cell_blk HST.out.b1 1
        have i2 := cell_blk HST.out.b1 2
        have j1 := free_blk HST.out.b1
        simp at i0 i1 i2
        obtain ⟨⟨d0, d1, d2⟩, _, _, _⟩ := HST.out.cells HOX.out
        have hfin : (((wP.setCell ⟨w.heap.size + 1, 0, none⟩ (.slice A l.length c)).setCell ⟨w.heap.size + 1, 1, none⟩ (.int .i64 (q9 : Int))).setCell ⟨w.heap.size + 1, 2, none⟩ (.bool true)).heap[w.heap.size + 1]? = some (.cells #[.slice A l.length c, .int .i64 (q9 : Int), .bool true] 46 (0, 0)) := set_blk (set_blk (set_blk HST.out.b1 0 _) 1 _) 2 _
        have hfin2 : (((wP.setCell ⟨w.heap.size + 1, 0, none⟩ (.slice A l.length c)).setCell ⟨w.heap.size + 1, 1, none⟩ (.int .i64 (q9 : Int))).setCell ⟨w.heap.size + 1, 2, none⟩ (.bool true)).heap[w.heap.size + 1 + 1]? = some (.cells Z 30 (0, 0)) := by
          have hg := HST.out.b2
          unfold BoxX at hg
          rw [HZ.out] at hg
          exact blk_other (blk_other (blk_other hg _ (by omega)) _ (by omega)) _ (by omega)
        have hfb : Below w.heap.size w (((wP.setCell ⟨w.heap.size + 1, 0, none⟩ (.slice A l.length c)).setCell ⟨w.heap.size + 1, 1, none⟩ (.int .i64 (q9 : Int))).setCell ⟨w.heap.size + 1, 2, none⟩ (.bool true)) := ((HST.out.bel.setCell (Nat.le_succ _) _).setCell (Nat.le_succ _) _).setCell (Nat.le_succ _) _
        have hs : storeAx (.pointer (some ⟨w.heap.size + 1 + 1, 0, none⟩)) (.agg Z) (((wP.setCell ⟨w.heap.size + 1, 0, none⟩ (.slice A l.length c)).setCell ⟨w.heap.size + 1, 1, none⟩ (.int .i64 (q9 : Int))).setCell ⟨w.heap.size + 1, 2, none⟩ (.bool true)) = .ok .skip (((wP.setCell ⟨w.heap.size + 1, 0, none⟩ (.slice A l.length c)).setCell ⟨w.heap.size + 1, 1, none⟩ (.int .i64 (q9 : Int))).setCell ⟨w.heap.size + 1, 2, none⟩ (.bool true)) := by
          rw [storeAx_eq hfin2 HSZ.out HSZ.out HZ1.out, setAx_self hfin2]
        have HF1 := hid hfin
        have HF2 := hid hfin2
        have HFB := hid hfb
        clear hfin hfin2 hfb
        go_wp2_with fail
        refine bodyPost_ret (results_rx rfl _ _ _ _ _ _ _ _ _ rfl rfl rfl HF1.out HF2.out rfl HSZ.out) rfl ?_
        rw [← HZ.out]
        exact xrPost_no HRW.out HI.out HFB.out
      | true =>
        have hld : loadAx (.pointer (some ⟨w.heap.size + 1 + 1 + 1, 0, none⟩)) wP = .ok (.value (.agg CA)) wP := by
          have h : wP.heap[w.heap.size + 1 + 1 + 1]? = some (.cells (axc { a with fr := L, tg := h9 } (.slice SA SN SC)) 30 (0, 0)) := HST.out.b3
          rw [HCA.out] at h
          exact loadAx_row h HCS.out.1
        have HMA : Hid (Calls Tryd.prog 18 #[.agg CA] wP fun e w' => e = .returned (.bool m) ∧ Below wP.heap.size wP w') := hid (by
          have := refMay10_any (.agg CA) { a with fr := L, tg := h9 } wP ⟨_, by rw [HCA.out], HOX.out, HOW.out.els eltIc (fun _ _ => trivial)⟩
          rw [HM.out] at this
          exact this)
        obtain ⟨⟨d0, d1, d2⟩, _, _, _⟩ := HST.out.cells HOX.out
        go_wp2_with fail
        refine HMA.out.mono ?_
        rintro e w9 ⟨rfl, hb9⟩
        have HS9 := hid (HST.out.below hb9)
        have HO9 := hid (HOW.out.below hb9)
        clear hld d0 d1 d2 hb9
        cases m with
        | false =>
          have HI : Hid (acIs l p r = false) := hid (by rw [HIS.out]; rfl)
          have hbz := HBZ.out
          have i0 := cell_blk HS9.out.b1 0
          have i1 := cell_blk HS9.out.b1 1
          have i2 := cell_blk HS9.out.b1 2
          have j1 := free_blk HS9.out.b1
          simp at i0 i1 i2
          obtain ⟨⟨d0, d1, d2⟩, _, _, _⟩ := HS9.out.cells HOX.out
          have hfin : (((w9.setCell ⟨w.heap.size + 1, 0, none⟩ (.slice A l.length c)).setCell ⟨w.heap.size + 1, 1, none⟩ (.int .i64 (q9 : Int))).setCell ⟨w.heap.size + 1, 2, none⟩ (.bool false)).heap[w.heap.size + 1]? = some (.cells #[.slice A l.length c, .int .i64 (q9 : Int), .bool false] 46 (0, 0)) := set_blk (set_blk (set_blk HS9.out.b1 0 _) 1 _) 2 _
          have hfin2 : (((w9.setCell ⟨w.heap.size + 1, 0, none⟩ (.slice A l.length c)).setCell ⟨w.heap.size + 1, 1, none⟩ (.int .i64 (q9 : Int))).setCell ⟨w.heap.size + 1, 2, none⟩ (.bool false)).heap[w.heap.size + 1 + 1]? = some (.cells Z 30 (0, 0)) := by
            have hg := HS9.out.b2
            unfold BoxX at hg
            rw [HZ.out] at hg
            exact blk_other (blk_other (blk_other hg _ (by omega)) _ (by omega)) _ (by omega)
          have hfb : Below w.heap.size w (((w9.setCell ⟨w.heap.size + 1, 0, none⟩ (.slice A l.length c)).setCell ⟨w.heap.size + 1, 1, none⟩ (.int .i64 (q9 : Int))).setCell ⟨w.heap.size + 1, 2, none⟩ (.bool false)) := ((HS9.out.bel.setCell (Nat.le_succ _) _).setCell (Nat.le_succ _) _).setCell (Nat.le_succ _) _
          have hs : storeAx (.pointer (some ⟨w.heap.size + 1 + 1, 0, none⟩)) (.agg Z) (((w9.setCell ⟨w.heap.size + 1, 0, none⟩ (.slice A l.length c)).setCell ⟨w.heap.size + 1, 1, none⟩ (.int .i64 (q9 : Int))).setCell ⟨w.heap.size + 1, 2, none⟩ (.bool false)) = .ok .skip (((w9.setCell ⟨w.heap.size + 1, 0, none⟩ (.slice A l.length c)).setCell ⟨w.heap.size + 1, 1, none⟩ (.int .i64 (q9 : Int))).setCell ⟨w.heap.size + 1, 2, none⟩ (.bool false)) := by
            rw [storeAx_eq hfin2 HSZ.out HSZ.out HZ1.out, setAx_self hfin2]
          have HF1 := hid hfin
          have HF2 := hid hfin2
          have HFB := hid hfb
          clear hfin hfin2 hfb
          go_wp2_with fail
          refine bodyPost_ret (results_rx rfl _ _ _ _ _ _ _ _ _ rfl rfl rfl HF1.out HF2.out rfl HSZ.out) rfl ?_
          rw [← HZ.out]
          exact xrPost_no HRW.out HI.out HFB.out
        | true =>
          have HI : Hid (acIs l p r = true) := hid (by rw [HIS.out]; rfl)
          go_upto_region 17 with (fail)
          have HXR : Hid (∀ W : World, W.heap[w.heap.size]? = some (.cells #[.slice A l.length c, .int .i64 (q9 : Int), .bool false] 46 (0, 0)) → W.heap[w.heap.size + 1 + 1 + 1]? = some (.cells (axc { a with fr := L, tg := h9 } (.slice SA SN SC)) 30 (0, 0)) →
            W.cell? ⟨w.heap.size, 0, none⟩ = some (.slice A l.length c) ∧ W.cell? ⟨w.heap.size, 1, none⟩ = some (.int .i64 (q9 : Int)) ∧ W.cell? ⟨w.heap.size, 2, none⟩ = some (.bool false) ∧ loadAx (.pointer (some ⟨w.heap.size + 1 + 1 + 1, 0, none⟩)) W = .ok (.value (.agg CA)) W) := hid (fun W h0 h3 => by
            rw [HCA.out] at h3
            exact ⟨cell_blk h0 0, cell_blk h0 1, cell_blk h0 2, loadAx_row h3 HCS.out.1⟩)
          have HB0 : Hid (w9.heap[w.heap.size]? = some (.cells #[.slice A l.length c, .int .i64 (q9 : Int), .bool false] 46 (0, 0))) := hid HS9.out.b0
          have HB3 : Hid (w9.heap[w.heap.size + 1 + 1 + 1]? = some (.cells (axc { a with fr := L, tg := h9 } (.slice SA SN SC)) 30 (0, 0))) := hid HS9.out.b3
          have HB1 := hid HS9.out.b1
          have HB2 : Hid (w9.heap[w.heap.size + 1 + 1]? = some (.cells Z 30 (0, 0))) := hid (by have := HS9.out.b2; unfold BoxX at this; rw [HZ.out] at this; exact this)
          have HBL := hid HS9.out.bel
          have hlt := HS9.out.lt
          have hR3 : (#[.slice A l.length c, .int .i64 (q9 : Int), .bool false] : Array Value).all (·.oneCell') = true := all_oneCell_toArray (by intro u hu; simp only [List.mem_cons, List.not_mem_nil, or_false] at hu; obtain rfl | rfl | rfl := hu <;> rfl)
          refine wp_region_held_drew (S := fun W => W.cell? ⟨w.heap.size, 0, none⟩ = some (.slice A l.length c) ∧ W.cell? ⟨w.heap.size, 1, none⟩ = some (.int .i64 (q9 : Int)) ∧ W.cell? ⟨w.heap.size, 2, none⟩ = some (.bool false) ∧ loadAx (.pointer (some ⟨w.heap.size + 1 + 1 + 1, 0, none⟩)) W = .ok (.value (.agg CA)) W) (by kernel_rfl) (HXR.out w9.drew HB0.out HB3.out) (fun hHeld => ?_)
          refine' take_on (i := 0) (v := _) rfl (by kernel_rfl) (by kernel_rfl) (by kernel_rfl) (fun _ _ _ h => h) (by rfl) ?_ (by assumption) ?_
          rotate_left
          · (intro W hW; (try dsimp only at hW); obtain ⟨hW1, hW2, hW3, _⟩ := hW; go_simp; first | done | with_reducible rfl)
          try simp only [Act.put, List.setIfInBounds_toArray, List.set_cons_zero, List.set_cons_succ]
          refine' take_on (i := 1) (v := _) rfl (by kernel_rfl) (by kernel_rfl) (by kernel_rfl) (fun _ _ _ h => h) (by rfl) (fun W hW => hW.2.2.2) (by assumption) ?_
          try simp only [Act.put, List.setIfInBounds_toArray, List.set_cons_zero, List.set_cons_succ]
          refine call_on (i := 2) rfl (by kernel_rfl) (by rfl) (fun K hK => ?_)
          refine wp_store_whole (w := w9.drew) (C := #[.slice A l.length c, .int .i64 (q9 : Int), .bool false]) _ _ rfl rfl rfl HB1.out size_ref rfl hR3 ?_
          intro wa hga hra hsa
          have h0 := (hga.block _ (by show _ < w9.heap.size; omega) (fun e => by injection e with e; omega)).trans HB0.out
          have h2 := (hga.block _ (by show _ < w9.heap.size; omega) (fun e => by injection e with e; omega)).trans HB2.out
          have h3 := (hga.block _ (by show _ < w9.heap.size; omega) (fun e => by injection e with e; omega)).trans HB3.out
          refine hK.out _ _ (HXR.out wa h0 h3) (fun hHeld => ?_)
          clear hK K
          refine call_on (i := 3) rfl (by kernel_rfl) (by rfl) (fun K hK => ?_)
          refine wp_store_whole (w := wa) (C := CA) _ _ rfl rfl rfl h2 (by rw [size_ax, HCS.out.1]) (by rw [HSZ.out, HCS.out.1]) HCS.out.2 ?_
          intro wb hgb hrb hsb
          have i0 := (hgb.block _ (lt_of_block h0) (fun e => by injection e with e; omega)).trans h0
          have i3 := (hgb.block _ (lt_of_block h3) (fun e => by injection e with e; omega)).trans h3
          have hra2 := (hgb.block _ (lt_of_block hra) (fun e => by injection e with e; omega)).trans hra
          have hlt0 := lt_of_block h0
          have hlti := lt_of_block i0
          have hBB : Below w.heap.size w wb := below_into (below_into (HBL.out.drew) (Nat.le_succ _) hga (by show _ ≤ w9.heap.size; omega)) (by omega) hgb (by omega)
          have HOB : Hid (OwnE icl 1 3 (w.heap.size + 1 + 1 + 1 + 1) wb (.slice SA SN SC) L) := hid (OwnE.far (OwnE.far (w := w9.drew) HO9.out hga (by omega)) hgb (by omega))
          refine hK.out _ _ (HXR.out wb i0 i3) (fun hHeld => ?_)
          clear hK K
          refine' take_on (i := 4) (v := _) rfl (by kernel_rfl) (by kernel_rfl) (by kernel_rfl) (fun _ _ _ h => h) (by rfl) ?_ (by assumption) ?_
          rotate_left
          · (intro W hW; (try dsimp only at hW); go_simp; first | done | with_reducible rfl)
          try simp only [Act.put, List.setIfInBounds_toArray, List.set_cons_zero, List.set_cons_succ]
          refine wpAnyH_done (by kernel_rfl) ?_ _
          go_wp2_with fail
          refine bodyPost_ret (results_rx rfl _ _ _ _ _ _ _ _ _ rfl rfl rfl hra2 hrb rfl HCS.out.1) rfl ?_
          rw [← HCA.out]
          exact xrPost_yes HRW.out HI.out HOX.out (HOB.out.els eltIc (fun _ _ => trivial)) hBB

theorem refRead10_any (A : Option Addr) (c p : Nat) (r : Bool) (l : List UInt8) (w : World) (hv : Byt w (.slice A l.length c) l) (hp : p ≤ l.length) (hl : l.length ≤ 1000000) :
    Calls Tryd.prog 15 #[rv A l.length c p (!r)] w fun e w' => ∃ x, e = .returned (.tuple #[rv A l.length c (rawX l p r).2.1 (!(rawX l p r).2.2), x, .bool (acIs l p r)]) ∧ AcV w' x (acOf l p r) ∧ Below w.heap.size w w' := refRead10_post A c p r l w hv hp hl
end Go.Proofs.YthgdgkdnidjdgaaDoor
