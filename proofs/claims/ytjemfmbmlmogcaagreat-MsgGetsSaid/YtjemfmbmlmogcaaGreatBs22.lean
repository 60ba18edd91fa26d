/-
  AcRead AcTagged AcBytes AcSame AcOk: what each of them says stands at its head.
-/
import Derived.LoopTactic
import Derived.Test.YtjemfmbmlmogcaaGreatBs21
import Derived.Test.YtjemfmbmlmogcaaGreatBs13
import Derived.Test.YtjemfmbmlmogcaaGreatBs3
import Derived.Deep.DeepCutAuto
import Derived.Test.YtjemfmbmlmogcaaGreatBs12
import Derived.BigQuiet
import Derived.Deep.QuietTactic
import Derived.Outline
import Derived.Test.YtjemfmbmlmogcaaGreatBs1
namespace Go.Proofs.YtjemfmbmlmogcaaGreat
set_option maxRecDepth 20000
open Go.RowKit
attribute [local go_sem ↓] exec_load_ax exec_alloc_ax exec_store_ax exec_build_ax
theorem results_rx {fn : Func} {p q s : Tmp} (h : fn.results = #[.cell p 83, .cell q 31, .tmp s]) (tmps : Array Value) (w : World) (g1 g2 : Nat) (t1 t2 : TypeId) (xs ys : Array Value) (v : Value)
    (hp : tmps.getD p undef = .pointer (some ⟨g1, 0, none⟩)) (hq : tmps.getD q undef = .pointer (some ⟨g2, 0, none⟩)) (hv : tmps.getD s undef = v) (h1 : w.heap[g1]? = some (.cells xs t1 (0, 0))) (h2 : w.heap[g2]? = some (.cells ys t2 (0, 0))) (hx : xs.size = 3) (hy : ys.size = 68) :
    (results fn tmps).run Tryz.prog w = .ok (.tuple #[.agg xs, .agg ys, v]) w := by
  have hp' : tmps[p]?.getD undef = .pointer (some ⟨g1, 0, none⟩) := by simpa using hp
  have hq' : tmps[q]?.getD undef = .pointer (some ⟨g2, 0, none⟩) := by simpa using hq
  have hv' : tmps[s]?.getD undef = v := by simpa using hv
  have r1 := run_loadVar_row (P := Tryz.prog) w g1 t1 83 xs (0, 0) _ h1 under_ref rfl (by rw [size_ref, hx])
  have r2 := run_loadVar_row (P := Tryz.prog) w g2 t2 31 ys (0, 0) _ h2 under_ax rfl (by rw [size_ax, hy])
  simp [results, h, hp', hq', hv', asAddr, r1, r2]
def AcN (B : Nat) (w : World) (v : Value) (a : AcM) : Prop := ∃ s, v = .agg (axc a s) ∧ a.Ok ∧ OwnE icl 1 3 B w s a.fr
def XrPost (A : Option Addr) (c p : Nat) (r : Bool) (l : List UInt8) (w : World) (e : Ending) (w' : World) : Prop :=
  ∃ x, e = .returned (.tuple #[rv A l.length c (rawX l p r).2.1 (!(rawX l p r).2.2), x, .bool (acIs l p r)]) ∧ AcN w.heap.size w' x (acOf l p r) ∧ Below w.heap.size w w'
section
variable {A : Option Addr} {c p q : Nat} {r t : Bool} {l : List UInt8} {w w' : World} {cc : AcM} {s : Value}
theorem xrPost_no (hr : rawX l p r = (cc, q, t)) (hi : acIs l p r = false) (hb : Below w.heap.size w w') : XrPost A c p r l w (.returned (.tuple #[rv A l.length c q (!t), .agg (axc acZ (.slice none 0 0)), .bool false])) w' := by
  refine ⟨.agg (axc acZ (.slice none 0 0)), ?_, ?_, hb⟩
  · rw [hr, hi]
  · unfold acOf
    rw [hi, if_neg (by decide)]
    exact ⟨_, rfl, acZ_ok, OwnE.nil _ _⟩
theorem xrPost_yes (hr : rawX l p r = (cc, q, true)) (hi : acIs l p r = true) (ho : cc.Ok) (hs : OwnE icl 1 3 w.heap.size w' s cc.fr) (hb : Below w.heap.size w w') : XrPost A c p r l w (.returned (.tuple #[rv A l.length c q false, .agg (axc cc s), .bool true])) w' := by
  refine ⟨.agg (axc cc s), ?_, ?_, hb⟩
  · rw [hr, hi]
    rfl
  · unfold acOf
    rw [hi, if_pos rfl, hr]
    exact ⟨_, rfl, ho, hs⟩
end
set_option maxHeartbeats 12800000 in
theorem refRead10_post (A : Option Addr) (c p : Nat) (r : Bool) (l : List UInt8) (w : World) (hv : Byt w (.slice A l.length c) l) (hp : p ≤ l.length) (hl : l.length ≤ 1000000) :
    Calls Tryz.prog 50 #[rv A l.length c p (!r)] w (XrPost A c p r l w) := by
  have HH := hid (fun p r (hp : p ≤ l.length) (w' : World) (hb : Below w.heap.size w w') => refHash_any A c p r l w' (hv.below hb) hp (by omega))
  have HU := hid (fun p r (hp : p ≤ l.length) m (h1 : -9223372036854775808 ≤ m) (h2 : m ≤ 9223372036854775807) (w' : World) (hb : Below w.heap.size w w') => refUpto_any A c p r l m w' (hv.below hb) hp (by omega) h1 h2)
  obtain ⟨Z, HZ⟩ : ∃ C : Array Value, Hid (axc acZ (.slice none 0 0) = C) := ⟨_, hid rfl⟩
  have hbz : ∀ W, buildAx W = .ok (.value (.agg Z)) W := fun W => by rw [← HZ.out]; exact buildAx_eq W
  have hal : ∀ W, allocAx W = .ok (.value (.pointer (some ⟨W.heap.size, 0, none⟩))) (W.alloc (.cells Z 31)) := fun W => by rw [← HZ.out]; exact allocAx_eq W
  have hsz : Z.size = 68 := by rw [← HZ.out]; exact axc_size _ acZ_ok
  have hz1 : Z.all (·.oneCell') = true := by rw [← HZ.out]; exact axc_one (w := w) (a := acZ) (Els.nil w)
  have hst0 := AxSt.new w (.slice A l.length c) (.int .i64 (p : Int)) (.bool (!r))
  rw [HZ.out] at hst0
  have hs0 : storeAx (.pointer (some ⟨w.heap.size + 1 + 1 + 1, 0, none⟩)) (.agg Z) ((((w.alloc (.cells #[.slice A l.length c, .int .i64 (p : Int), .bool (!r)] 83)).alloc (.cells #[.slice none 0 0, .int .i64 0, .bool false] 83)).alloc (.cells Z 31)).alloc (.cells Z 31)) = .ok .skip ((((w.alloc (.cells #[.slice A l.length c, .int .i64 (p : Int), .bool (!r)] 83)).alloc (.cells #[.slice none 0 0, .int .i64 0, .bool false] 83)).alloc (.cells Z 31)).alloc (.cells Z 31)) := by
    have hg : BoxX _ _ acZ _ := hst0.b3
    unfold BoxX at hg
    rw [HZ.out] at hg
    rw [storeAx_eq hg hsz hsz hz1, setAx_self hg]
  have HSZ := hid hsz
  have HZ1 := hid hz1
  have HBZ := hid hbz
  clear hv hsz hz1
  unfold rv
  go_enter Tryz.func50, Tryz.ntmps50
  go_wp2_with fail
  obtain ⟨a1, p1, r1, HA1⟩ : ∃ x q s, Hid (rdUpto 21 l p r = (x, q, s)) := ⟨_, _, _, hid rfl⟩
  have hp1 : p1 ≤ l.length := by have := rdUpto_pl (m := 21) (r := r) hp; rw [HA1.out] at this; exact this
  have C := HU.out p r hp 21 (by omega) (by omega) _ (hst0).bel
  rw [HA1.out] at C
  refine C.mono ?_
  clear C
  rintro e w1 ⟨rfl, hb⟩
  have hst : AxSt w w1 (.slice A l.length c) (.int .i64 (p : Int)) (.bool (!r)) ⟨0, 0, 0, z32, [], z32⟩ (.slice none 0 0) := (hst0).below hb
  clear hb hst0 hs0 hbz hal
  obtain ⟨⟨c0, c1, c2⟩, ⟨k0, k1, k2, k5⟩, g0, g3⟩ := hst.cells ⟨rfl, rfl⟩
  have HST := hid hst
  clear hst
  unfold rv
  go_wp2_with fail
  obtain ⟨a2, p2, r2, HA2⟩ : ∃ x q s, Hid (rdUpto 1099511627776 l p1 r1 = (x, q, s)) := ⟨_, _, _, hid rfl⟩
  have hp2 : p2 ≤ l.length := by have := rdUpto_pl (m := 1099511627776) (r := r1) hp1; rw [HA2.out] at this; exact this
  have C := HU.out p1 r1 hp1 1099511627776 (by omega) (by omega) _ (((HST.out.put (.slice A l.length c) (.int .i64 (p1 : Int)) (.bool (!r1))).cell (b := ⟨(a1 : Int), 0, 0, z32, [], z32⟩) (t := (.slice none 0 0)) (v := .int .i64 (a1 : Int)) 0 rfl)).bel
  rw [HA2.out] at C
  refine C.mono ?_
  clear C
  rintro e w2 ⟨rfl, hb⟩
  have hst : AxSt w w2 (.slice A l.length c) (.int .i64 (p1 : Int)) (.bool (!r1)) ⟨(a1 : Int), 0, 0, z32, [], z32⟩ (.slice none 0 0) := (((HST.out.put (.slice A l.length c) (.int .i64 (p1 : Int)) (.bool (!r1))).cell (b := ⟨(a1 : Int), 0, 0, z32, [], z32⟩) (t := (.slice none 0 0)) (v := .int .i64 (a1 : Int)) 0 rfl)).below hb
  clear hb HST c0 c1 c2 k0 k1 k2 k5 g0 g3
  obtain ⟨⟨c0, c1, c2⟩, ⟨k0, k1, k2, k5⟩, g0, g3⟩ := hst.cells ⟨rfl, rfl⟩
  have HST := hid hst
  clear hst
  unfold rv
  go_wp2_with fail
  obtain ⟨a3, p3, r3, HA3⟩ : ∃ x q s, Hid (rdUpto 1099511627776 l p2 r2 = (x, q, s)) := ⟨_, _, _, hid rfl⟩
  have hp3 : p3 ≤ l.length := by have := rdUpto_pl (m := 1099511627776) (r := r2) hp2; rw [HA3.out] at this; exact this
  have C := HU.out p2 r2 hp2 1099511627776 (by omega) (by omega) _ (((HST.out.put (.slice A l.length c) (.int .i64 (p2 : Int)) (.bool (!r2))).cell (b := ⟨(a1 : Int), (a2 : Int), 0, z32, [], z32⟩) (t := (.slice none 0 0)) (v := .int .i64 (a2 : Int)) 1 rfl)).bel
  rw [HA3.out] at C
  refine C.mono ?_
  clear C
  rintro e w3 ⟨rfl, hb⟩
  have hst : AxSt w w3 (.slice A l.length c) (.int .i64 (p2 : Int)) (.bool (!r2)) ⟨(a1 : Int), (a2 : Int), 0, z32, [], z32⟩ (.slice none 0 0) := (((HST.out.put (.slice A l.length c) (.int .i64 (p2 : Int)) (.bool (!r2))).cell (b := ⟨(a1 : Int), (a2 : Int), 0, z32, [], z32⟩) (t := (.slice none 0 0)) (v := .int .i64 (a2 : Int)) 1 rfl)).below hb
  clear hb HST c0 c1 c2 k0 k1 k2 k5 g0 g3
  obtain ⟨⟨c0, c1, c2⟩, ⟨k0, k1, k2, k5⟩, g0, g3⟩ := hst.cells ⟨rfl, rfl⟩
  have HST := hid hst
  clear hst
  unfold rv
  go_wp2_with fail
  obtain ⟨h4, p4, r4, HA4⟩ : ∃ x q s, Hid (rdHash l p3 r3 = (x, q, s)) := ⟨_, _, _, hid rfl⟩
  have hp4 : p4 ≤ l.length := by have := rdHash_pl8 (l := l) (p := p3) (r := r3) hp3; rw [HA4.out] at this; exact this
  have HL4 : Hid (h4.length = 32) := hid (by have := rdHash_32 l p3 r3; rw [HA4.out] at this; exact this)
  have C := HH.out p3 r3 hp3 _ (((HST.out.put (.slice A l.length c) (.int .i64 (p3 : Int)) (.bool (!r3))).cell (b := ⟨(a1 : Int), (a2 : Int), (a3 : Int), z32, [], z32⟩) (t := (.slice none 0 0)) (v := .int .i64 (a3 : Int)) 2 rfl)).bel
  rw [HA4.out] at C
  refine C.mono ?_
  clear C
  rintro e w4 ⟨rfl, hb⟩
  have hst : AxSt w w4 (.slice A l.length c) (.int .i64 (p3 : Int)) (.bool (!r3)) ⟨(a1 : Int), (a2 : Int), (a3 : Int), z32, [], z32⟩ (.slice none 0 0) := (((HST.out.put (.slice A l.length c) (.int .i64 (p3 : Int)) (.bool (!r3))).cell (b := ⟨(a1 : Int), (a2 : Int), (a3 : Int), z32, [], z32⟩) (t := (.slice none 0 0)) (v := .int .i64 (a3 : Int)) 2 rfl)).below hb
  clear hb HST c0 c1 c2 k0 k1 k2 k5 g0 g3
  obtain ⟨⟨c0, c1, c2⟩, ⟨k0, k1, k2, k5⟩, g0, g3⟩ := hst.cells ⟨rfl, rfl⟩
  have HST := hid hst
  clear hst
  unfold rv
  go_wp2_with (refine wpList_store_xpa rfl _ _ rfl rfl rfl (HST.out.put (.slice A l.length c) (.int .i64 (p4 : Int)) (.bool (!r4))).b3 ⟨rfl, rfl⟩ HL4.out ?_; intro wP hgP hbP hsP; have HSP : Hid (AxSt w wP (.slice A l.length c) (.int .i64 (p4 : Int)) (.bool (!r4)) ⟨(a1 : Int), (a2 : Int), (a3 : Int), h4, [], z32⟩ (.slice none 0 0)) := hid ((HST.out.put (.slice A l.length c) (.int .i64 (p4 : Int)) (.bool (!r4))).att hgP hbP); obtain ⟨⟨d0, d1, d2⟩, ⟨e0, e1, e2, e5⟩, f0, f3⟩ := HSP.out.cells ⟨HL4.out, rfl⟩; clear hgP hbP hsP)
  clear HST c0 c1 c2 k0 k1 k2 k5 g0 g3
  obtain ⟨a5, p5, r5, HA5⟩ : ∃ x q s, Hid (rdUpto 21 l p4 r4 = (x, q, s)) := ⟨_, _, _, hid rfl⟩
  have hp5 : p5 ≤ l.length := by have := rdUpto_pl (m := 21) (r := r4) hp4; rw [HA5.out] at this; exact this
  have C := HU.out p4 r4 hp4 21 (by omega) (by omega) _ (HSP.out).bel
  rw [HA5.out] at C
  refine C.mono ?_
  clear C
  rintro e w5 ⟨rfl, hb⟩
  have hst : AxSt w w5 (.slice A l.length c) (.int .i64 (p4 : Int)) (.bool (!r4)) ⟨(a1 : Int), (a2 : Int), (a3 : Int), h4, [], z32⟩ (.slice none 0 0) := (HSP.out).below hb
  clear hb HSP d0 d1 d2 e0 e1 e2 e5 f0 f3
  obtain ⟨⟨c0, c1, c2⟩, ⟨k0, k1, k2, k5⟩, g0, g3⟩ := hst.cells ⟨HL4.out, rfl⟩
  have HST := hid hst
  clear hst
  unfold rv
  have HN21 : Hid (a5 ≤ 21) := hid (by have := rdUpto_le (m := 21) (l := l) (p := p4) (r := r4); rw [show ((21 : Nat) : Int) = 21 from rfl, HA5.out] at this; exact this)
  obtain ⟨a, HAT⟩ : ∃ a : AcM, Hid ((⟨(a1 : Int), (a2 : Int), (a3 : Int), h4, [], z32⟩ : AcM) = a) := ⟨_, hid rfl⟩
  have HOK : Hid a.Ok := hid (by rw [← HAT.out]; exact ⟨HL4.out, rfl⟩)
  have HRAW : Hid (rawX l p r = ({ a with fr := (rdFrs l p5 r5 a5).1, tg := (rdHash l (rdFrs l p5 r5 a5).2.1 (rdFrs l p5 r5 a5).2.2).1 }, (rdHash l (rdFrs l p5 r5 a5).2.1 (rdFrs l p5 r5 a5).2.2).2)) := hid (by rw [← HAT.out]; unfold rawX; simp only [HA1.out, HA2.out, HA3.out, HA4.out, HA5.out])
  go_wp2_with fail
  have HST7 := hid (HST.out.put (.slice A l.length c) (.int .i64 (p5 : Int)) (.bool (!r5)))
  rw [HAT.out] at HST7
  clear HST c0 c1 c2 k0 k1 k2 k5 g0 g3 HA1 HA2 HA3 HA4 HA5 HAT HL4
  go_loopw [7] (fun si wr => ∃ (i : Nat) (s : Value), i ≤ a5 ∧ si = .int .i64 (i : Int) ∧ AxSt w wr (.slice A l.length c) (.int .i64 ((rdFrs l p5 r5 i).2.1 : Int)) (.bool (!(rdFrs l p5 r5 i).2.2)) a s ∧ OwnE icl 1 3 (w.heap.size + 1 + 1 + 1 + 1) wr s (rdFrs l p5 r5 i).1 ∧ (rdFrs l p5 r5 i).2.1 ≤ l.length) (fun si _ => a5 - (intOf si).toNat)
  case atStart => exact ⟨0, _, Nat.zero_le _, rfl, HST7.out, OwnE.nil _ _, hp5⟩
  case round =>
    obtain ⟨i, s, hi, rfl, hst, hown, hpl⟩ := hrel
    by_cases hlt : i < a5
    · obtain ⟨L, q, t, HR⟩ : ∃ x y z, Hid (rdFrs l p5 r5 i = (x, y, z)) := ⟨_, _, _, hid rfl⟩
      have HLN : Hid (L.length ≤ 21) := hid (by have := rdFrs_len l p5 r5 i; rw [HR.out] at this; have := HN21.out; simp only at *; omega)
      rw [HR.out] at hst hown hpl
      simp only at hst hown hpl
      obtain ⟨x8, q8, t8, HA8⟩ : ∃ x y z, Hid (rdUpto 21 l q t = (x, y, z)) := ⟨_, _, _, hid rfl⟩
      have hq8 : q8 ≤ l.length := by have := rdUpto_pl (m := 21) (r := t) hpl; rw [HA8.out] at this; exact this
      have HRN : Hid (rdFrs l p5 r5 (i + 1) = (L ++ [(x8 : Int)], q8, t8)) := hid (by unfold rdFrs; simp only [HR.out, HA8.out])
      have HI : Hid (i < a5) := hid hlt
      have h21 := HN21.out
      have hI : (i : Int) < (a5 : Int) := by omega
      have hlts := hst.lt
      obtain ⟨⟨c0, c1, c2⟩, _, g0, _⟩ := hst.cells HOK.out
      have HSTA := hid hst
      have HOWA := hid hown
      clear hst hown
      have C := HU.out q t hpl 21 (by omega) (by omega) _ HSTA.out.bel
      rw [HA8.out] at C
      go_wp2_with fail
      refine C.mono ?_
      clear C
      rintro e w8 ⟨rfl, hb8⟩
      have hst8 := HSTA.out.below hb8
      have how8 := HOWA.out.below hb8
      clear c0 c1 c2 g0
      have hbA : Below w8.heap.size w8 (w8.alloc (.cells #[.slice A l.length c, .int .i64 (q8 : Int), .bool (!t8)] 83)) := (Below.refl _ _).alloc (Nat.le_refl _) _
      have hst9 := hst8.below hbA
      have hlt9 := hst9.lt
      have HOW9 := hid (how8.below hbA)
      have hrA := heap_alloc_new w8 (.cells #[.slice A l.length c, .int .i64 (q8 : Int), .bool (!t8)] 83)
      have n1 : ¬ w8.heap.size = w.heap.size := by have := hst8.lt; omega
      have n2 : ¬ w.heap.size = w8.heap.size := by have := hst8.lt; omega
      clear how8 hb8 hst8
      unfold rv
      go_upto_region 12 with (fail)
      generalize (w8.alloc (.cells #[.slice A l.length c, .int .i64 (q8 : Int), .bool (!t8)] 83)) = w9 at *
      have d0 := cell_blk hrA 0
      have d1 := cell_blk hrA 1
      have d2 := cell_blk hrA 2
      simp at d0 d1 d2
      obtain ⟨⟨c0, c1, c2⟩, _, g0, _⟩ := hst9.cells HOK.out
      have HSTC := hid (hst9.put (.slice A l.length c) (.int .i64 (q8 : Int)) (.bool (!t8)))
      have HOWC := hid (((HOW9.out.set (g := w.heap.size) (by omega) 0 (.slice A l.length c)).set (g := w.heap.size) (by omega) 1 (.int .i64 (q8 : Int))).set (g := w.heap.size) (by omega) 2 (.bool (!t8)))
      have HLT9 := hid hlt9
      clear hst9 hrA hbA
      go_upto_region 13 with (fail)
      clear d0 d1 d2 c0 c1 c2 g0
      generalize (((w9.setCell ⟨w.heap.size, 0, none⟩ (.slice A l.length c)).setCell ⟨w.heap.size, 1, none⟩ (.int .i64 (q8 : Int))).setCell ⟨w.heap.size, 2, none⟩ (.bool (!t8))) = wB at *
      obtain ⟨_, ⟨_, _, _, k5⟩, _, g3⟩ := HSTC.out.cells HOK.out
      have hob2 : Hid (∀ b, s.ownBlock = some b → w.heap.size + 1 + 1 + 1 < b) := hid (fun b e => (World.ownsRow.lt HOWC.out b e).1)
      go_wp2_with (at_builtin; go_loud (refine eltIc.wpList_append (x := .slice (some ⟨wB.heap.size, 0, none⟩) 1 1) (m := [(x8 : Int)]) rfl (.tmp 52) (.tmp 54) rfl rfl rfl (fun _ _ => trivial) (HOWC.out.alloc _) (els_one wB (x8 : Int) #[.int .i64 (x8 : Int)] 3 rfl) (by have := HLN.out; simp only [List.length_cons, List.length_nil]; omega) (Nat.le_trans HSTC.out.lt (al_le _ _)) ?_; intro v10 w10 ho10 hg10 hv10; have HST11 := hid ((HSTC.out.below ((Below.refl _ _).alloc (Nat.le_refl _) _)).grown hg10 (fun k hk => hob2.out k hk)); obtain ⟨_, ⟨_, _, _, k6⟩, _, g4⟩ := HST11.out.cells HOK.out; obtain ⟨A9, n9, c9, rfl⟩ : ∃ A n c, v10 = .slice A n c := (by obtain ⟨A, c, e⟩ := ho10.shape; exact ⟨_, _, _, e⟩); clear hg10 hv10))
      go_roundw
      case rel =>
        refine ⟨i + 1, .slice A9 n9 c9, by omega, by go_num, ?_, ?_, ?_⟩
        · rw [HRN.out]
          exact HST11.out.cell (t := .slice A9 n9 c9) 35 (axc_fr a _ _ HOK.out)
        · rw [HRN.out]
          exact ho10.set (g := w.heap.size + 1 + 1 + 1) (by omega) 35 _
        · rw [HRN.out]
          exact hq8
      case measure => simp [intOf]; omega
    · obtain rfl : i = a5 := by omega
      have hI : ¬ (i : Int) < (i : Int) := by omega
      obtain ⟨L, q, t, HR⟩ : ∃ x y z, Hid (rdFrs l p5 r5 i = (x, y, z)) := ⟨_, _, _, hid rfl⟩
      obtain ⟨h9, q9, t9, HA9⟩ : ∃ x y z, Hid (rdHash l q t = (x, y, z)) := ⟨_, _, _, hid rfl⟩
      have HRW : Hid (rawX l p r = ({ a with fr := L, tg := h9 }, q9, t9)) := hid (by rw [HRAW.out, HR.out]; simp only [HA9.out])
      rw [HR.out] at hst hown hpl
      simp only at hst hown hpl
      have hq9 : q9 ≤ l.length := by have := rdHash_pl8 (l := l) (p := q) (r := t) hpl; rw [HA9.out] at this; exact this
      have HL9 : Hid (h9.length = 32) := hid (by have := rdHash_32 l q t; rw [HA9.out] at this; exact this)
      have C := HH.out q t hpl _ hst.bel
      rw [HA9.out] at C
      obtain ⟨⟨c0, c1, c2⟩, _, g0, _⟩ := hst.cells HOK.out
      have HSTA := hid hst
      have HOWA := hid hown
      clear hst hown
      obtain ⟨SA, SN, SC, rfl⟩ : ∃ A n c, s = .slice A n c := by obtain ⟨A, c, e⟩ := HOWA.out.shape; exact ⟨_, _, _, e⟩
      go_wp2_with fail
      refine C.mono ?_
      clear C
      rintro e w8 ⟨rfl, hb8⟩
      have HST8 := hid (HSTA.out.below hb8)
      have HOW8 := hid (HOWA.out.below hb8)
      clear c0 c1 c2 g0 hb8
      obtain ⟨⟨c0, c1, c2⟩, _, g0, _⟩ := HST8.out.cells HOK.out
      have HOX : Hid (({ a with fr := L, tg := h9 } : AcM).Ok) := hid ⟨HOK.out.pa, HL9.out⟩
      unfold rv
      go_upto_region 15 with (refine wpList_store_xtg rfl _ _ rfl rfl rfl (HST8.out.put (.slice A l.length c) (.int .i64 (q9 : Int)) (.bool (!t9))).b3 HOK.out HL9.out ?_; intro wP hgP hbP hsP; have HST : Hid (AxSt w wP (.slice A l.length c) (.int .i64 (q9 : Int)) (.bool (!t9)) { a with fr := L, tg := h9 } (.slice SA SN SC)) := hid ((HST8.out.put (.slice A l.length c) (.int .i64 (q9 : Int)) (.bool (!t9))).att hgP hbP); have HOW : Hid (OwnE icl 1 3 (w.heap.size + 1 + 1 + 1 + 1) wP (.slice SA SN SC) L) := hid ((((HOW8.out.set (g := w.heap.size) (by omega) 0 (.slice A l.length c)).set (g := w.heap.size) (by omega) 1 (.int .i64 (q9 : Int))).set (g := w.heap.size) (by omega) 2 (.bool (!t9))).far hgP (by omega)); clear hgP hbP hsP)
      clear c0 c1 c2 g0 HST8 HOW8 HSTA HOWA
      obtain ⟨CA, HCA⟩ : ∃ C : Array Value, Hid (axc { a with fr := L, tg := h9 } (.slice SA SN SC) = C) := ⟨_, hid rfl⟩
      have HCS : Hid (CA.size = 68 ∧ CA.all (·.oneCell') = true) := hid (by rw [← HCA.out]; exact ⟨axc_size _ HOX.out, axc_one (a := { a with fr := L, tg := h9 }) (HOW.out.els eltIc (fun _ _ => trivial))⟩)
      obtain ⟨m, HM⟩ : ∃ b : Bool, Hid (mayX { a with fr := L, tg := h9 } = b) := ⟨_, hid rfl⟩
      have HIS : Hid (acIs l p r = (t9 && m)) := hid (by unfold acIs; rw [HRW.out, HM.out])
      cases t9 with
      | false =>
        have HI : Hid (acIs l p r = false) := hid (by rw [HIS.out]; rfl)
        have hbz := HBZ.out
        have i0 := cell_blk HST.out.b1 0
        have i1 := cell_blk HST.out.b1 1
        have i2 := cell_blk HST.out.b1 2
        have j1 := free_blk HST.out.b1
        simp at i0 i1 i2
        obtain ⟨⟨d0, d1, d2⟩, _, _, _⟩ := HST.out.cells HOX.out
        have hfin : (((wP.setCell ⟨w.heap.size + 1, 0, none⟩ (.slice A l.length c)).setCell ⟨w.heap.size + 1, 1, none⟩ (.int .i64 (q9 : Int))).setCell ⟨w.heap.size + 1, 2, none⟩ (.bool true)).heap[w.heap.size + 1]? = some (.cells #[.slice A l.length c, .int .i64 (q9 : Int), .bool true] 83 (0, 0)) := set_blk (set_blk (set_blk HST.out.b1 0 _) 1 _) 2 _
        have hfin2 : (((wP.setCell ⟨w.heap.size + 1, 0, none⟩ (.slice A l.length c)).setCell ⟨w.heap.size + 1, 1, none⟩ (.int .i64 (q9 : Int))).setCell ⟨w.heap.size + 1, 2, none⟩ (.bool true)).heap[w.heap.size + 1 + 1]? = some (.cells Z 31 (0, 0)) := by
          have hg := HST.out.b2
          unfold BoxX at hg
          rw [HZ.out] at hg
          exact blk_other (blk_other (blk_other hg _ (by omega)) _ (by omega)) _ (by omega)
        have hfb : Below w.heap.size w (((wP.setCell ⟨w.heap.size + 1, 0, none⟩ (.slice A l.length c)).setCell ⟨w.heap.size + 1, 1, none⟩ (.int .i64 (q9 : Int))).setCell ⟨w.heap.size + 1, 2, none⟩ (.bool true)) := ((HST.out.bel.setCell (Nat.le_succ _) _).setCell (Nat.le_succ _) _).setCell (Nat.le_succ _) _
        have hs : storeAx (.pointer (some ⟨w.heap.size + 1 + 1, 0, none⟩)) (.agg Z) (((wP.setCell ⟨w.heap.size + 1, 0, none⟩ (.slice A l.length c)).setCell ⟨w.heap.size + 1, 1, none⟩ (.int .i64 (q9 : Int))).setCell ⟨w.heap.size + 1, 2, none⟩ (.bool true)) = .ok .skip (((wP.setCell ⟨w.heap.size + 1, 0, none⟩ (.slice A l.length c)).setCell ⟨w.heap.size + 1, 1, none⟩ (.int .i64 (q9 : Int))).setCell ⟨w.heap.size + 1, 2, none⟩ (.bool true)) := by
          rw [storeAx_eq hfin2 HSZ.out HSZ.out HZ1.out, setAx_self hfin2]
        have HF1 := hid hfin
        have HF2 := hid hfin2
        have HFB := hid hfb
        clear hfin hfin2 hfb
        go_wp2_with fail
        refine bodyPost_ret (results_rx rfl _ _ _ _ _ _ _ _ _ rfl rfl rfl HF1.out HF2.out rfl HSZ.out) rfl ?_
        rw [← HZ.out]
        exact xrPost_no HRW.out HI.out HFB.out
      | true =>
        have hld : loadAx (.pointer (some ⟨w.heap.size + 1 + 1 + 1, 0, none⟩)) wP = .ok (.value (.agg CA)) wP := by
          have h : wP.heap[w.heap.size + 1 + 1 + 1]? = some (.cells (axc { a with fr := L, tg := h9 } (.slice SA SN SC)) 31 (0, 0)) := HST.out.b3
          rw [HCA.out] at h
          exact loadAx_row h HCS.out.1
        have HMA : Hid (Calls Tryz.prog 23 #[.agg CA] wP fun e w' => e = .returned (.bool m) ∧ Below wP.heap.size wP w') := hid (by
          have := refMay10_any (.agg CA) { a with fr := L, tg := h9 } wP ⟨_, by rw [HCA.out], HOX.out, HOW.out.els eltIc (fun _ _ => trivial)⟩
          rw [HM.out] at this
          exact this)
        obtain ⟨⟨d0, d1, d2⟩, _, _, _⟩ := HST.out.cells HOX.out
        go_wp2_with fail
        refine HMA.out.mono ?_
        rintro e w9 ⟨rfl, hb9⟩
        have HS9 := hid (HST.out.below hb9)
        have HO9 := hid (HOW.out.below hb9)
        clear hld d0 d1 d2 hb9
        cases m with
        | false =>
          have HI : Hid (acIs l p r = false) := hid (by rw [HIS.out]; rfl)
          have hbz := HBZ.out
          have i0 := cell_blk HS9.out.b1 0
          have i1 := cell_blk HS9.out.b1 1
          have i2 := cell_blk HS9.out.b1 2
          have j1 := free_blk HS9.out.b1
          simp at i0 i1 i2
          obtain ⟨⟨d0, d1, d2⟩, _, _, _⟩ := HS9.out.cells HOX.out
          have hfin : (((w9.setCell ⟨w.heap.size + 1, 0, none⟩ (.slice A l.length c)).setCell ⟨w.heap.size + 1, 1, none⟩ (.int .i64 (q9 : Int))).setCell ⟨w.heap.size + 1, 2, none⟩ (.bool false)).heap[w.heap.size + 1]? = some (.cells #[.slice A l.length c, .int .i64 (q9 : Int), .bool false] 83 (0, 0)) := set_blk (set_blk (set_blk HS9.out.b1 0 _) 1 _) 2 _
          have hfin2 : (((w9.setCell ⟨w.heap.size + 1, 0, none⟩ (.slice A l.length c)).setCell ⟨w.heap.size + 1, 1, none⟩ (.int .i64 (q9 : Int))).setCell ⟨w.heap.size + 1, 2, none⟩ (.bool false)).heap[w.heap.size + 1 + 1]? = some (.cells Z 31 (0, 0)) := by
            have hg := HS9.out.b2
            unfold BoxX at hg
            rw [HZ.out] at hg
            exact blk_other (blk_other (blk_other hg _ (by omega)) _ (by omega)) _ (by omega)
          have hfb : Below w.heap.size w (((w9.setCell ⟨w.heap.size + 1, 0, none⟩ (.slice A l.length c)).setCell ⟨w.heap.size + 1, 1, none⟩ (.int .i64 (q9 : Int))).setCell ⟨w.heap.size + 1, 2, none⟩ (.bool false)) := ((HS9.out.bel.setCell (Nat.le_succ _) _).setCell (Nat.le_succ _) _).setCell (Nat.le_succ _) _
          have hs : storeAx (.pointer (some ⟨w.heap.size + 1 + 1, 0, none⟩)) (.agg Z) (((w9.setCell ⟨w.heap.size + 1, 0, none⟩ (.slice A l.length c)).setCell ⟨w.heap.size + 1, 1, none⟩ (.int .i64 (q9 : Int))).setCell ⟨w.heap.size + 1, 2, none⟩ (.bool false)) = .ok .skip (((w9.setCell ⟨w.heap.size + 1, 0, none⟩ (.slice A l.length c)).setCell ⟨w.heap.size + 1, 1, none⟩ (.int .i64 (q9 : Int))).setCell ⟨w.heap.size + 1, 2, none⟩ (.bool false)) := by
            rw [storeAx_eq hfin2 HSZ.out HSZ.out HZ1.out, setAx_self hfin2]
          have HF1 := hid hfin
          have HF2 := hid hfin2
          have HFB := hid hfb
          clear hfin hfin2 hfb
          go_wp2_with fail
          refine bodyPost_ret (results_rx rfl _ _ _ _ _ _ _ _ _ rfl rfl rfl HF1.out HF2.out rfl HSZ.out) rfl ?_
          rw [← HZ.out]
          exact xrPost_no HRW.out HI.out HFB.out
        | true =>
          have HI : Hid (acIs l p r = true) := hid (by rw [HIS.out]; rfl)
          go_upto_region 17 with (fail)
          have HXR : Hid (∀ W : World, W.heap[w.heap.size]? = some (.cells #[.slice A l.length c, .int .i64 (q9 : Int), .bool false] 83 (0, 0)) → W.heap[w.heap.size + 1 + 1 + 1]? = some (.cells (axc { a with fr := L, tg := h9 } (.slice SA SN SC)) 31 (0, 0)) →
            W.cell? ⟨w.heap.size, 0, none⟩ = some (.slice A l.length c) ∧ W.cell? ⟨w.heap.size, 1, none⟩ = some (.int .i64 (q9 : Int)) ∧ W.cell? ⟨w.heap.size, 2, none⟩ = some (.bool false) ∧ loadAx (.pointer (some ⟨w.heap.size + 1 + 1 + 1, 0, none⟩)) W = .ok (.value (.agg CA)) W) := hid (fun W h0 h3 => by
            rw [HCA.out] at h3
            exact ⟨cell_blk h0 0, cell_blk h0 1, cell_blk h0 2, loadAx_row h3 HCS.out.1⟩)
          have HB0 : Hid (w9.heap[w.heap.size]? = some (.cells #[.slice A l.length c, .int .i64 (q9 : Int), .bool false] 83 (0, 0))) := hid HS9.out.b0
          have HB3 : Hid (w9.heap[w.heap.size + 1 + 1 + 1]? = some (.cells (axc { a with fr := L, tg := h9 } (.slice SA SN SC)) 31 (0, 0))) := hid HS9.out.b3
          have HB1 := hid HS9.out.b1
          have HB2 : Hid (w9.heap[w.heap.size + 1 + 1]? = some (.cells Z 31 (0, 0))) := hid (by have := HS9.out.b2; unfold BoxX at this; rw [HZ.out] at this; exact this)
          have HBL := hid HS9.out.bel
          have hlt := HS9.out.lt
          have hR3 : (#[.slice A l.length c, .int .i64 (q9 : Int), .bool false] : Array Value).all (·.oneCell') = true := all_oneCell_toArray (by intro u hu; simp only [List.mem_cons, List.not_mem_nil, or_false] at hu; obtain rfl | rfl | rfl := hu <;> rfl)
          refine wp_region_held_drew (S := fun W => W.cell? ⟨w.heap.size, 0, none⟩ = some (.slice A l.length c) ∧ W.cell? ⟨w.heap.size, 1, none⟩ = some (.int .i64 (q9 : Int)) ∧ W.cell? ⟨w.heap.size, 2, none⟩ = some (.bool false) ∧ loadAx (.pointer (some ⟨w.heap.size + 1 + 1 + 1, 0, none⟩)) W = .ok (.value (.agg CA)) W) (by kernel_rfl) (HXR.out w9.drew HB0.out HB3.out) (fun hHeld => ?_)
          refine' tk (i := 0) (v := _) rfl ?_ ?_
          rotate_left
          · (intro W hW; (try dsimp only at hW); obtain ⟨hW1, hW2, hW3, _⟩ := hW; go_simp; first | done | with_reducible rfl)
          try simp only [lay]
          refine' tk (i := 1) (v := _) rfl (fun W hW => hW.2.2.2) ?_
          try simp only [lay]
          refine call_on (i := 2) rfl (by kernel_rfl) (by rfl) (fun K hK => ?_)
          refine wp_store_whole (w := w9.drew) (C := #[.slice A l.length c, .int .i64 (q9 : Int), .bool false]) _ _ rfl rfl rfl HB1.out size_ref rfl hR3 ?_
          intro wa hga hra hsa
          have h0 := (hga.block _ (by show _ < w9.heap.size; omega) (fun e => by injection e with e; omega)).trans HB0.out
          have h2 := (hga.block _ (by show _ < w9.heap.size; omega) (fun e => by injection e with e; omega)).trans HB2.out
          have h3 := (hga.block _ (by show _ < w9.heap.size; omega) (fun e => by injection e with e; omega)).trans HB3.out
          refine hK.out _ _ (HXR.out wa h0 h3) (fun hHeld => ?_)
          clear hK K
          refine call_on (i := 3) rfl (by kernel_rfl) (by rfl) (fun K hK => ?_)
          refine wp_store_whole (w := wa) (C := CA) _ _ rfl rfl rfl h2 (by rw [size_ax, HCS.out.1]) (by rw [HSZ.out, HCS.out.1]) HCS.out.2 ?_
          intro wb hgb hrb hsb
          have i0 := (hgb.block _ (lt_of_block h0) (fun e => by injection e with e; omega)).trans h0
          have i3 := (hgb.block _ (lt_of_block h3) (fun e => by injection e with e; omega)).trans h3
          have hra2 := (hgb.block _ (lt_of_block hra) (fun e => by injection e with e; omega)).trans hra
          have hlt0 := lt_of_block h0
          have hlti := lt_of_block i0
          have hBB : Below w.heap.size w wb := below_into (below_into (HBL.out.drew) (Nat.le_succ _) hga (by show _ ≤ w9.heap.size; omega)) (by omega) hgb (by omega)
          have HOB : Hid (OwnE icl 1 3 (w.heap.size + 1 + 1 + 1 + 1) wb (.slice SA SN SC) L) := hid (OwnE.far (OwnE.far (w := w9.drew) HO9.out hga (by omega)) hgb (by omega))
          refine hK.out _ _ (HXR.out wb i0 i3) (fun hHeld => ?_)
          clear hK K
          refine' tk (i := 4) (v := _) rfl ?_ ?_
          rotate_left
          · (intro W hW; (try dsimp only at hW); go_simp; first | done | with_reducible rfl)
          try simp only [lay]
          refine wpAnyH_done (by kernel_rfl) ?_ _
          go_wp2_with fail
          refine bodyPost_ret (results_rx rfl _ _ _ _ _ _ _ _ _ rfl rfl rfl hra2 hrb rfl HCS.out.1) rfl ?_
          rw [← HCA.out]
          exact xrPost_yes HRW.out HI.out HOX.out (HOB.out.more (by omega)) hBB
end Go.Proofs.YtjemfmbmlmogcaaGreat
namespace Go.Proofs.YtjemfmbmlmogcaaGreat
set_option maxRecDepth 20000
open Go.RowKit
attribute [local go_sem ↓] exec_load_hash
theorem frB_snoc (l : List Int) (i : Nat) (h : i < l.length) : frB (l.take (i + 1)) = frB (l.take i) ++ dg (l[i]).toNat := by
  unfold frB
  rw [List.take_succ_eq_append_getElem h, List.map_append, List.flatten_append]
  simp
set_option maxHeartbeats 3200000 in
theorem refTagged10_any (x0 : Value) (a : AcM) (w : World) (hv : AcV w x0 a) (hm : mayX a = true) :
    Calls Tryz.prog 85 #[x0] w fun e w' => ∃ x, e = .returned x ∧ Own w.heap.size w' x (taggedX a) ∧ Below w.heap.size w w' := by
  obtain ⟨s, rfl, ho, he⟩ := hv
  obtain ⟨_, h1, h2, h3, h4, h5, h6, h7⟩ := mayX_iff.1 hm
  obtain ⟨hfr, hlen⟩ := mayX_fr hm
  have HFR := hid hfr
  obtain ⟨A, c, rfl⟩ := he.shape
  have hb0 : Below w.heap.size w (w.alloc (.cells (axc a (.slice A a.fr.length c)) 31)) := (Below.refl _ _).alloc (Nat.le_refl _) _
  have hX := BoxX.new w a (.slice A a.fr.length c)
  have he0 := he.below hb0
  obtain ⟨L, HL⟩ : ∃ n : Nat, Hid (a.fr.length = n) := ⟨_, hid rfl⟩
  rw [HL.out] at hX hb0 he0 hlen ⊢
  obtain ⟨C, HC⟩ : ∃ C : Array Value, Hid (axc a (.slice A L c) = C) := ⟨_, hid rfl⟩
  obtain ⟨O, HO⟩ : ∃ O : List UInt8, Hid (taggedX a = O) := ⟨_, hid rfl⟩
  rw [HC.out] at hb0 hX he0 ⊢
  rw [HO.out]
  have HOK := hid ho
  obtain ⟨v, HVV⟩ : ∃ v : Nat, Hid (a.vi = (v : Int)) := ⟨a.vi.toNat, hid (by omega)⟩
  obtain ⟨q, HQQ⟩ : ∃ v : Nat, Hid (a.pv = (v : Int)) := ⟨a.pv.toNat, hid (by omega)⟩
  have hv1 : IntKind.u64.wrap (v : Int) = (v : Int) := wrap_u64 _ (by have := HVV.out; omega) (by have := HVV.out; omega)
  have hq1 : IntKind.u64.wrap (q : Int) = (q : Int) := wrap_u64 _ (by have := HQQ.out; omega) (by have := HQQ.out; omega)
  have HNV := hid (fun w => refnum_any (v : Int) w (by omega) (by have := HVV.out; omega))
  have HNQ := hid (fun w => refnum_any (q : Int) w (by omega) (by have := HQQ.out; omega))
  rw [Int.toNat_natCast] at HNV HNQ
  have HLV := hid (dg_len10 (n := v) (by have := HVV.out; omega))
  have HLQ := hid (dg_len10 (n := q) (by have := HQQ.out; omega))
  have HBP := hid (fun w => refBytes7_arr a.pa w HOK.out.pa)
  have HL21 := hid hlen
  have hLw : IntKind.u8.wrap (L : Int) = (L : Int) := by rw [IntKind.wrap_u8']; omega
  have HYL := hid (fun w => one_own w L (by omega))
  have HDL : Hid (dg L = [UInt8.ofNat L]) := hid (dg_small (by omega))
  clear h1 h2 h3 h4 h5 h6 h7 hm hfr ho he
  go_enter Tryz.func85, Tryz.ntmps85
  go_upto_region 1 with (fail)
  generalize (w.alloc (.cells C 31)) = w0 at *
  have hs0 := hb0.size
  have HX : Hid (∀ W, Below w0.heap.size w0 W → W.heap[w.heap.size]? = some (.cells C 31 (0, 0))) := hid (fun W h => (h.block _ hX.lt).trans (by have := hX; unfold BoxX at this; rw [HC.out] at this; exact this))
  have HXC : Hid (∀ W : World, W.heap[w.heap.size]? = some (.cells C 31 (0, 0)) → W.cell? ⟨w.heap.size, 1, none⟩ = some (.int .i64 (v : Int)) ∧ W.cell? ⟨w.heap.size, 2, none⟩ = some (.int .i64 (q : Int)) ∧ W.cell? ⟨w.heap.size, 35, none⟩ = some (.slice A L c) ∧ W.rangeAt w.heap.size 3 (bcells a.pa)) := hid (fun W h => by
    rw [← HC.out] at h
    have hB : BoxX W w.heap.size a (.slice A L c) := h
    rw [← HVV.out, ← HQQ.out]
    exact ⟨hB.ints.2.1, hB.ints.2.2, hB.fr HOK.out, hB.pa⟩)
  have HTX := hid (fun W (h : Below w0.heap.size w0 W) => he0.below h)
  have hbd : Below w0.heap.size w0 w0.drew := (Below.refl _ _).drew
  have HB0 := hid hb0
  clear hX he0 hb0
  refine wp_region_held_drew (S := fun W => W.heap[w.heap.size]? = some (.cells C 31 (0, 0))) (by kernel_rfl) (HX.out _ hbd) (fun hHeld => ?_)
  refine' tk (i := 0) (v := _) rfl ?_ ?_
  rotate_left
  · (intro W hW; (try dsimp only at hW); go_simp; first | done | with_reducible rfl)
  try simp only [lay]
  refine' tk (i := 1) (v := _) rfl ?_ ?_
  rotate_left
  · (intro W hW; (try dsimp only at hW); have hW1 := (HXC.out W hW).1; have hW2 := (HXC.out W hW).2.1; have hW3 := (HXC.out W hW).2.2.1; clear hW; go_simp; first | done | with_reducible rfl)
  try simp only [lay]
  refine' tk (i := 2) (v := _) rfl ?_ ?_
  rotate_left
  · (intro W hW; (try dsimp only at hW); go_simp; first | done | with_reducible rfl)
  try simp only [lay]
  refine' tk (i := 4) (v := _) rfl ?_ ?_
  rotate_left
  · (intro W hW; (try dsimp only at hW); go_simp; first | done | with_reducible rfl)
  try simp only [lay]
  refine' tk (i := 5) (v := _) rfl ?_ ?_
  rotate_left
  · (intro W hW; (try dsimp only at hW); have hW1 := (HXC.out W hW).1; have hW2 := (HXC.out W hW).2.1; have hW3 := (HXC.out W hW).2.2.1; clear hW; go_simp; first | done | with_reducible rfl)
  try simp only [lay]
  refine' tk (i := 6) (v := _) rfl ?_ ?_
  rotate_left
  · (intro W hW; (try dsimp only at hW); go_simp; first | done | with_reducible rfl)
  try simp only [lay]
  refine call_on (i := 3) rfl (by kernel_rfl) (by rfl) (fun K hK => ?_)
  go_simp
  refine (HNV.out w0.drew).mono ?_
  rintro e w4 ⟨v4, rfl, ho4, hb4'⟩
  have hb4 := hbd.trans hb4'
  refine hK.out _ _ (HX.out _ hb4) (fun hHeld => ?_)
  clear hK K
  try simp only [lay]
  refine call_on (i := 7) rfl (by kernel_rfl) (by rfl) (fun K hK => ?_)
  go_simp
  refine (HNQ.out w4).mono ?_
  rintro e w5 ⟨v5, rfl, ho5, hb5'⟩
  have hb5 := hb4.trans (hb5'.mono hb4.size)
  refine hK.out _ _ (HX.out _ hb5) (fun hHeld => ?_)
  clear hK K
  try simp only [lay]
  refine call_on (i := 8) rfl (by kernel_rfl) (by rfl) (fun K hK => ?_)
  refine wp_append_byt (.tmp 8) (.tmp 12) rfl rfl rfl (ho4.below hb5') ho5.byt (by have := HLV.out; have := HLQ.out; omega) hb5.size ?_
  intro v6 w6 ho6 hg6 _
  have hb6 := hb5.grown hg6 hb5.size (fun q hq => (World.ownsRow.lt (ho4.below hb5') q hq).1)
  refine hK.out _ _ (HX.out _ hb6) (fun hHeld => ?_)
  clear hK K
  try simp only [lay]
  refine' tk (i := 9) (v := _) rfl ?_ ?_
  rotate_left
  · (intro W hW; (try dsimp only at hW); go_simp; first | done | with_reducible rfl)
  try simp only [lay]
  refine wpAnyH_done (by kernel_rfl) ?_ _
  obtain ⟨T1, HT1⟩ : ∃ O : List UInt8, Hid (dg v ++ dg q = O) := ⟨_, hid rfl⟩
  have HT1L : Hid (T1.length ≤ 20) := hid (by rw [← HT1.out, List.length_append]; have := HLV.out; have := HLQ.out; omega)
  have ho6' : Own w0.heap.size w6 v6 T1 := by rw [← HT1.out]; exact ho6
  obtain ⟨P, HP⟩ : ∃ O : List UInt8, Hid (T1 ++ a.pa ++ [UInt8.ofNat L] = O) := ⟨_, hid rfl⟩
  have HPL : Hid (P.length ≤ 60) := hid (by rw [← HP.out]; simp only [List.length_append, List.length_cons, List.length_nil, HOK.out.pa]; have := HT1L.out; omega)
  clear hHeld ho4 ho5 hb4 hb4' hb5 hb5' hg6 ho6 hv1 hq1 hbd
  go_upto_region 2 with (fail)
  have hb7 : Below w0.heap.size w0 w6.drew := hb6.drew
  have hr7 : Below w6.heap.size w6 w6.drew := (Below.refl _ _).drew
  go_cut [3] (fun s3 wx => Own w0.heap.size wx s3 P ∧ Below w0.heap.size w0 wx)
  case first =>
    refine wp_region_held_drew (S := fun W => W.heap[w.heap.size]? = some (.cells C 31 (0, 0))) (by kernel_rfl) (HX.out _ hb7) (fun hHeld => ?_)
    refine' tk (i := 0) (v := _) rfl ?_ ?_
    rotate_left
    · (intro W hW; (try dsimp only at hW); go_simp; first | done | with_reducible rfl)
    try simp only [lay]
    refine' tk (i := 1) (v := _) rfl ?_ ?_
    rotate_left
    · (intro W hW; (try dsimp only at hW); go_simp; first | done | with_reducible rfl)
    try simp only [lay]
    refine' tk (i := 2) (v := _) rfl (fun W hW => loadH_mid (HXC.out W hW).2.2.2 HOK.out.pa) ?_
    try simp only [lay]
    refine' tk (i := 5) (v := _) rfl ?_ ?_
    rotate_left
    · (intro W hW; (try dsimp only at hW); go_simp; first | done | with_reducible rfl)
    try simp only [lay]
    refine' tk (i := 6) (v := _) rfl ?_ ?_
    rotate_left
    · (intro W hW; (try dsimp only at hW); have hW3 := (HXC.out W hW).2.2.1; clear hW; go_simp; first | done | with_reducible rfl)
    try simp only [lay]
    refine' tk (i := 7) (v := _) rfl ?_ ?_
    rotate_left
    · (intro W hW; (try dsimp only at hW); go_simp; first | done | with_reducible rfl)
    try simp only [lay]
    refine' tk (i := 8) (v := _) rfl ?_ ?_
    rotate_left
    · (intro W hW; (try dsimp only at hW); go_simp; first | done | with_reducible rfl)
    try simp only [lay]
    have ho7 : Own w0.heap.size w6.drew v6 T1 := ho6'.below hr7
    refine pair_on (i := 3) (j := 9) rfl rfl (by kernel_rfl) (by rfl) (by rfl) (fun K hK => ?_) (fun K hK => ?_)
    · go_simp
      refine (HBP.out w6.drew).mono ?_
      rintro e u1 ⟨x4, rfl, ko5, kb2⟩
      have kb3 := hb7.trans (kb2.mono hb7.size)
      have kb3o := ho7.below kb2
      refine hK.out _ _ (HX.out _ kb3) (fun hHeld => ?_)
      clear hK K
      try simp only [lay]
      refine pair_on (i := 4) (j := 9) rfl rfl (by kernel_rfl) (by rfl) (by rfl) (fun K hK => ?_) (fun K hK => ?_)
      · refine wp_append_byt (.tmp 14) (.tmp 17) rfl rfl rfl kb3o ko5.byt (by have := HT1L.out; have := HOK.out.pa; omega) kb3.size ?_
        intro x6 u7 ko8 kg9 _
        have kb10 := kb3.grown kg9 kb3.size (fun q hq => (World.ownsRow.lt kb3o q hq).1)
        refine hK.out _ _ (HX.out _ kb10) (fun hHeld => ?_)
        clear hK K
        try simp only [lay]
        refine call_on (i := 9) rfl (by kernel_rfl) (by rfl) (fun K hK => ?_)
        go_simp
        have kb11 := kb10.alloc kb10.size (.cells #[.int .u8 (L : Int)] 5)
        have ky12 := (HYL.out u7).byt
        have kb11o := ko8.alloc (.cells #[.int .u8 (L : Int)] 5)
        refine hK.out _ _ (HX.out _ kb11) (fun hHeld => ?_)
        clear hK K
        try simp only [lay]
        refine call_on (i := 10) rfl (by kernel_rfl) (by rfl) (fun K hK => ?_)
        refine wp_append_byt (.tmp 18) (.tmp 23) rfl rfl rfl kb11o ky12 (by rw [List.length_append]; have := HT1L.out; have := HOK.out.pa; simp only [List.length_cons, List.length_nil]; omega) kb11.size ?_
        intro x13 u14 ko15 kg16 _
        have kb17 := kb11.grown kg16 kb11.size (fun q hq => (World.ownsRow.lt kb11o q hq).1)
        refine hK.out _ _ (HX.out _ kb17) (fun hHeld => ?_)
        clear hK K
        try simp only [lay]
        refine' tk (i := 11) (v := _) rfl ?_ ?_
        rotate_left
        · (intro W hW; (try dsimp only at hW); go_simp; first | done | with_reducible rfl)
        try simp only [lay]
        refine wpAnyH_done (by kernel_rfl) ?_ _
        rw [HP.out] at ko15
        have HF := hid (And.intro ko15 kb17)
        clear hHeld
        go_wp2_with fail
        go_meet
        case rel => exact HF.out
      · go_simp
        have kb18 := kb3.alloc kb3.size (.cells #[.int .u8 (L : Int)] 5)
        have ky19 := HYL.out u1
        have kb18o := kb3o.alloc (.cells #[.int .u8 (L : Int)] 5)
        have ko20 := ko5.alloc (.cells #[.int .u8 (L : Int)] 5)
        refine hK.out _ _ (HX.out _ kb18) (fun hHeld => ?_)
        clear hK K
        try simp only [lay]
        refine call_on (i := 4) rfl (by kernel_rfl) (by rfl) (fun K hK => ?_)
        refine wp_append_byt (.tmp 14) (.tmp 17) rfl rfl rfl kb18o ko20.byt (by have := HT1L.out; have := HOK.out.pa; omega) kb18.size ?_
        intro x21 u22 ko23 kg24 _
        have kb25 := kb18.grown kg24 kb18.size (fun q hq => (World.ownsRow.lt kb18o q hq).1)
        have ky26 := own_past ho7 kb2.size ky19 kg24
        refine hK.out _ _ (HX.out _ kb25) (fun hHeld => ?_)
        clear hK K
        try simp only [lay]
        refine call_on (i := 10) rfl (by kernel_rfl) (by rfl) (fun K hK => ?_)
        refine wp_append_byt (.tmp 18) (.tmp 23) rfl rfl rfl ko23 ky26 (by rw [List.length_append]; have := HT1L.out; have := HOK.out.pa; simp only [List.length_cons, List.length_nil]; omega) kb25.size ?_
        intro x27 u28 ko29 kg30 _
        have kb31 := kb25.grown kg30 kb25.size (fun q hq => (World.ownsRow.lt ko23 q hq).1)
        refine hK.out _ _ (HX.out _ kb31) (fun hHeld => ?_)
        clear hK K
        try simp only [lay]
        refine' tk (i := 11) (v := _) rfl ?_ ?_
        rotate_left
        · (intro W hW; (try dsimp only at hW); go_simp; first | done | with_reducible rfl)
        try simp only [lay]
        refine wpAnyH_done (by kernel_rfl) ?_ _
        rw [HP.out] at ko29
        have HF := hid (And.intro ko29 kb31)
        clear hHeld
        go_wp2_with fail
        go_meet
        case rel => exact HF.out
    · go_simp
      have kb32 := hb7.alloc hb7.size (.cells #[.int .u8 (L : Int)] 5)
      have ky33 := HYL.out w6.drew
      have kb32o := ho7.alloc (.cells #[.int .u8 (L : Int)] 5)
      refine hK.out _ _ (HX.out _ kb32) (fun hHeld => ?_)
      clear hK K
      try simp only [lay]
      refine call_on (i := 3) rfl (by kernel_rfl) (by rfl) (fun K hK => ?_)
      go_simp
      refine (HBP.out (w6.drew.alloc (.cells #[.int .u8 (L : Int)] 5))).mono ?_
      rintro e u34 ⟨x37, rfl, ko38, kb35⟩
      have kb36 := kb32.trans (kb35.mono kb32.size)
      have kb36o := kb32o.below kb35
      have ky39 := ky33.below kb35
      refine hK.out _ _ (HX.out _ kb36) (fun hHeld => ?_)
      clear hK K
      try simp only [lay]
      refine call_on (i := 4) rfl (by kernel_rfl) (by rfl) (fun K hK => ?_)
      refine wp_append_byt (.tmp 14) (.tmp 17) rfl rfl rfl kb36o ko38.byt (by have := HT1L.out; have := HOK.out.pa; omega) kb36.size ?_
      intro x40 u41 ko42 kg43 _
      have kb44 := kb36.grown kg43 kb36.size (fun q hq => (World.ownsRow.lt kb36o q hq).1)
      have ky45 := own_past ho7 (Nat.le_refl _) ky39 kg43
      refine hK.out _ _ (HX.out _ kb44) (fun hHeld => ?_)
      clear hK K
      try simp only [lay]
      refine call_on (i := 10) rfl (by kernel_rfl) (by rfl) (fun K hK => ?_)
      refine wp_append_byt (.tmp 18) (.tmp 23) rfl rfl rfl ko42 ky45 (by rw [List.length_append]; have := HT1L.out; have := HOK.out.pa; simp only [List.length_cons, List.length_nil]; omega) kb44.size ?_
      intro x46 u47 ko48 kg49 _
      have kb50 := kb44.grown kg49 kb44.size (fun q hq => (World.ownsRow.lt ko42 q hq).1)
      refine hK.out _ _ (HX.out _ kb50) (fun hHeld => ?_)
      clear hK K
      try simp only [lay]
      refine' tk (i := 11) (v := _) rfl ?_ ?_
      rotate_left
      · (intro W hW; (try dsimp only at hW); go_simp; first | done | with_reducible rfl)
      try simp only [lay]
      refine wpAnyH_done (by kernel_rfl) ?_ _
      rw [HP.out] at ko48
      have HF := hid (And.intro ko48 kb50)
      clear hHeld
      go_wp2_with fail
      go_meet
      case rel => exact HF.out
  case rest =>
    obtain ⟨hoc, hbc⟩ := hcut
    have HLI : Hid (L ≤ 9223372036854775807) := hid (by have := HL21.out; omega)
    clear ho6' hb6 hb7 hr7 hLw
    go_wp2_with fail
    go_loopw [3, 4] (fun out si wr => ∃ i : Nat, i ≤ L ∧ si = .int .i64 i ∧ Own w0.heap.size wr out (P ++ frB (a.fr.take i)) ∧ Below w0.heap.size w0 wr) (fun _ si _ => L - (intOf si).toNat)
    case atStart => exact ⟨0, Nat.zero_le _, rfl, by rw [List.take_zero]; unfold frB; rw [List.map_nil, List.flatten_nil, List.append_nil]; exact hoc, hbc⟩
    case round =>
      obtain ⟨i, hi, rfl, hown, hB⟩ := hrel
      clear hoc hbc
      by_cases hlt : i < L
      · have hil : i < a.fr.length := by rw [HL.out]; exact hlt
        obtain ⟨g, o, rfl, hg, hcl⟩ := (HTX.out wr hB).at_.2.2.2 (by omega)
        have hsi := HFR.out _ (List.getElem_mem hil)
        have HNEW := hid (frB_snoc a.fr i hil)
        have HFL : Hid ((frB (a.fr.take i)).length ≤ 21) := hid (by
          rw [frB_len _ (fun s hs => HFR.out s (List.mem_of_mem_take hs)), List.length_take]
          have := HL21.out
          omega)
        obtain ⟨b, HSI⟩ : ∃ s, Hid (a.fr[i] = s) := ⟨_, hid rfl⟩
        rw [HSI.out] at hsi HNEW
        obtain ⟨n, rfl⟩ := nat_of (i := b) (by omega)
        have hbw : IntKind.u8.wrap (n : Int) = (n : Int) := by rw [IntKind.wrap_u8']; omega
        have HDN : Hid (dg n = [UInt8.ofNat n]) := hid (dg_small (by omega))
        rw [Int.toNat_natCast, HDN.out] at HNEW
        have HYN := hid (fun w => one_own w n (by omega))
        have c0 := (HXC.out wr (HX.out wr hB)).2.2.1
        have c1 : wr.cell? ⟨g, o + i, none⟩ = some (.int .i64 (n : Int)) := by
          have := hcl i hil 0 _ rfl
          rwa [Nat.mul_one, Nat.add_zero, HSI.out] at this
        obtain ⟨Q, HQ⟩ : ∃ Q : List UInt8, Hid (P ++ frB (a.fr.take i) = Q) := ⟨_, hid rfl⟩
        have HQL : Hid (Q.length ≤ 100) := hid (by rw [← HQ.out, List.length_append]; have := HPL.out; have := HFL.out; omega)
        rw [HQ.out] at hown
        have hI : (i : Int) < (L : Int) := by omega
        have hHI : Hid (i < L) := hid hlt
        have HBW := hid hB
        have HWW := hid hown
        clear hcl hsi hg hown
        go_wp2_with (at_builtin; refine wpList_append_byt rfl (.tmp 32) (.tmp 39) rfl rfl rfl (HWW.out.alloc _) (HYN.out wr).byt (by have := HQL.out; simp only [List.length_cons, List.length_nil]; omega) (Nat.le_trans HBW.out.size (al_le _ _)) ?_; intro v8 w8 ho8 hg8 _; have HO8 := hid ho8; have HB8 := hid ((HBW.out.alloc HBW.out.size _).grown hg8 (Nat.le_trans HBW.out.size (al_le _ _)) (fun q hq => (World.ownsRow.lt HWW.out q hq).1)); clear hg8 ho8)
        go_roundw
        case rel =>
          refine ⟨i + 1, hHI.out, by go_num, ?_, HB8.out⟩
          rw [HNEW.out, ← List.append_assoc, HQ.out]
          exact HO8.out
        case measure => have := HL21.out; simp [intOf]; omega
      · have E4 := hid (show i = L by omega)
        have hI : ¬ (i : Int) < (L : Int) := by omega
        have c0 := (HXC.out wr (HX.out wr hB)).2.2.1
        go_wp2_with fail
        go_ret
        refine ⟨_, rfl, ?_, HB0.out.trans (hB.mono hs0)⟩
        rw [E4.out, List.take_of_length_le (by rw [HL.out]; exact Nat.le_refl _)] at hown
        have e : P ++ frB a.fr = O := by
          rw [← HO.out, ← HP.out, ← HT1.out]
          unfold taggedX
          rw [HL.out, HDL.out, HVV.out, HQQ.out, Int.toNat_natCast, Int.toNat_natCast]
          simp only [List.append_assoc]
        rw [e] at hown
        exact hown.more hs0
end Go.Proofs.YtjemfmbmlmogcaaGreat
namespace Go.Proofs.YtjemfmbmlmogcaaGreat
set_option maxRecDepth 20000
open Go.RowKit
attribute [local go_sem ↓] exec_load_hash exec_load_ax
set_option maxHeartbeats 3200000 in
theorem refBytes10_any (x0 : Value) (a : AcM) (w : World) (hv : AcV w x0 a) (hm : mayX a = true) :
    Calls Tryz.prog 42 #[x0] w fun e w' => ∃ x, e = .returned x ∧ Own w.heap.size w' x (bytesX a) ∧ Below w.heap.size w w' := by
  have HTD := hid (fun W (h : Below w.heap.size w W) => refTagged10_any x0 a W (hv.below h) hm)
  obtain ⟨s, rfl, ho, he⟩ := hv
  obtain ⟨_, h1, h2, _⟩ := mayX_iff.1 hm
  have hlt := taggedX_len ho hm
  obtain ⟨T, HT⟩ : ∃ O : List UInt8, Hid (taggedX a = O) := ⟨_, hid rfl⟩
  obtain ⟨O, HO⟩ : ∃ O : List UInt8, Hid (bytesX a = O) := ⟨_, hid rfl⟩
  obtain ⟨n, HNN⟩ : ∃ v : Nat, Hid (a.bo = (v : Int)) := ⟨a.bo.toNat, hid (by omega)⟩
  have HOE : Hid ([UInt8.ofNat n] ++ T ++ a.tg = O) := hid (by
    rw [← HO.out]
    unfold bytesX
    rw [HT.out, HNN.out, Int.toNat_natCast, dg_small (by have := HNN.out; omega), List.append_assoc])
  rw [HT.out] at HTD hlt
  have HTL := hid hlt
  obtain ⟨C, HC⟩ : ∃ C : Array Value, Hid (axc a s = C) := ⟨_, hid rfl⟩
  have HCS : Hid (C.size = 68) := hid (by rw [← HC.out]; exact axc_size _ ho)
  rw [HO.out]
  rw [HC.out] at HTD ⊢
  have hr0 := heap_alloc_new w (.cells C 31)
  have hb0 : Below w.heap.size w (w.alloc (.cells C 31)) := (Below.refl _ _).alloc (Nat.le_refl _) _
  have HOK := hid ho
  have HBT := hid (fun w => refBytes7_arr a.tg w HOK.out.tg)
  have hnw : IntKind.u8.wrap (n : Int) = (n : Int) := by rw [IntKind.wrap_u8']; have := HNN.out; omega
  have HYN := hid (fun w => one_own w n (by have := HNN.out; omega))
  have HXR : Hid (∀ W : World, W.heap[w.heap.size]? = some (.cells C 31 (0, 0)) → W.cell? ⟨w.heap.size, 0, none⟩ = some (.int .i64 (n : Int)) ∧ loadAx (.pointer (some ⟨w.heap.size, 0, none⟩)) W = .ok (.value (.agg C)) W ∧ W.rangeAt w.heap.size 36 (bcells a.tg)) := hid (fun W h => by
    have h' := h
    rw [← HC.out] at h'
    have hB : BoxX W w.heap.size a s := h'
    rw [← HNN.out]
    exact ⟨hB.ints.1, loadAx_row h HCS.out, hB.tg HOK.out⟩)
  clear ho hm hlt he h1 h2
  go_enter Tryz.func42, Tryz.ntmps42
  go_upto_region 1 with (fail)
  generalize (w.alloc (.cells C 31)) = w0 at *
  have hl0 := lt_of_block hr0
  have HX : Hid (∀ W, Below w0.heap.size w0 W → W.heap[w.heap.size]? = some (.cells C 31 (0, 0))) := hid (fun W h => (h.block _ hl0).trans hr0)
  have hbd : Below w0.heap.size w0 w0.drew := (Below.refl _ _).drew
  have hs0 := hb0.size
  clear hr0 hl0
  go_cut [2] (fun s2 wx => Own w0.heap.size wx s2 O ∧ Below w0.heap.size w0 wx)
  case first =>
    refine wp_region_held_drew (S := fun W => W.heap[w.heap.size]? = some (.cells C 31 (0, 0))) (by kernel_rfl) (HX.out _ hbd) (fun hHeld => ?_)
    refine' tk (i := 0) (v := _) rfl ?_ ?_
    rotate_left
    · (intro W hW; (try dsimp only at hW); go_simp; first | done | with_reducible rfl)
    try simp only [lay]
    refine' tk (i := 1) (v := _) rfl ?_ ?_
    rotate_left
    · (intro W hW; (try dsimp only at hW); have hW1 := (HXR.out W hW).1; go_simp; first | done | with_reducible rfl)
    try simp only [lay]
    refine' tk (i := 2) (v := _) rfl ?_ ?_
    rotate_left
    · (intro W hW; (try dsimp only at hW); go_simp; first | done | with_reducible rfl)
    try simp only [lay]
    refine' tk (i := 4) (v := _) rfl (fun W hW => (HXR.out W hW).2.1) ?_
    try simp only [lay]
    refine' tk (i := 7) (v := _) rfl ?_ ?_
    rotate_left
    · (intro W hW; (try dsimp only at hW); go_simp; first | done | with_reducible rfl)
    try simp only [lay]
    refine' tk (i := 8) (v := _) rfl (fun W hW => loadH_mid (HXR.out W hW).2.2 HOK.out.tg) ?_
    try simp only [lay]
    refine pair_on (i := 3) (j := 5) rfl rfl (by kernel_rfl) (by rfl) (by rfl) (fun K hK => ?_) (fun K hK => ?_)
    · go_simp
      have hb3 := hbd.alloc hbd.size (.cells #[.int .u8 (n : Int)] 5)
      have ho3 := (HYN.out w0.drew)
      refine hK.out _ _ (HX.out _ hb3) (fun hHeld => ?_)
      clear hK K
      try simp only [lay]
      refine call_on (i := 5) rfl (by kernel_rfl) (by rfl) (fun K hK => ?_)
      go_simp
      refine (HTD.out _ (hb0.trans (hb3.mono hb0.size))).mono ?_
      rintro e w5 ⟨v5, rfl, ho5, hb5'⟩
      have hb5 := hb3.trans (hb5'.mono hb3.size)
      refine hK.out _ _ (HX.out _ hb5) (fun hHeld => ?_)
      clear hK K
      try simp only [lay]
      refine call_on (i := 6) rfl (by kernel_rfl) (by rfl) (fun K hK => ?_)
      refine wp_append_byt (.tmp 6) (.tmp 8) rfl rfl rfl (ho3.below hb5') ho5.byt (by have := HTL.out; simp only [List.length_cons, List.length_nil]; omega) hb5.size ?_
      intro v6 w6 ho6 hg6 _
      have hb6 := hb5.grown hg6 hb5.size (fun q hq => (World.ownsRow.lt (ho3.below hb5') q hq).1)
      refine hK.out _ _ (HX.out _ hb6) (fun hHeld => ?_)
      clear hK K
      try simp only [lay]
      refine call_on (i := 9) rfl (by kernel_rfl) (by rfl) (fun K hK => ?_)
      go_simp
      refine (HBT.out w6).mono ?_
      rintro e w7 ⟨v7, rfl, ho7, hb7'⟩
      have hb7 := hb6.trans (hb7'.mono hb6.size)
      refine hK.out _ _ (HX.out _ hb7) (fun hHeld => ?_)
      clear hK K
      try simp only [lay]
      refine call_on (i := 10) rfl (by kernel_rfl) (by rfl) (fun K hK => ?_)
      refine wp_append_byt (.tmp 9) (.tmp 12) rfl rfl rfl (ho6.below hb7') ho7.byt (by rw [List.length_append]; have := HTL.out; have := HOK.out.tg; simp only [List.length_cons, List.length_nil]; omega) hb7.size ?_
      intro v8 w8 ho8 hg8 _
      have hb8 := hb7.grown hg8 hb7.size (fun q hq => (World.ownsRow.lt (ho6.below hb7') q hq).1)
      refine hK.out _ _ (HX.out _ hb8) (fun hHeld => ?_)
      clear hK K
      try simp only [lay]
      refine' tk (i := 11) (v := _) rfl ?_ ?_
      rotate_left
      · (intro W hW; (try dsimp only at hW); go_simp; first | done | with_reducible rfl)
      try simp only [lay]
      refine wpAnyH_done (by kernel_rfl) ?_ _
      rw [HOE.out] at ho8
      have HF := hid (And.intro ho8 hb8)
      clear hHeld
      go_wp2_with fail
      go_meet
      case rel => exact HF.out
    · go_simp
      refine (HTD.out w0.drew hb0.drew).mono ?_
      rintro e w5 ⟨v5, rfl, ho5, hb5'⟩
      have hb5 := hbd.trans hb5'
      refine hK.out _ _ (HX.out _ hb5) (fun hHeld => ?_)
      clear hK K
      try simp only [lay]
      refine call_on (i := 3) rfl (by kernel_rfl) (by rfl) (fun K hK => ?_)
      go_simp
      have hb3 := hb5.alloc hb5.size (.cells #[.int .u8 (n : Int)] 5)
      have ho3 := (HYN.out w5).more hb5.size
      have hy3 := ho5.byt.alloc (.cells #[.int .u8 (n : Int)] 5)
      refine hK.out _ _ (HX.out _ hb3) (fun hHeld => ?_)
      clear hK K
      try simp only [lay]
      refine call_on (i := 6) rfl (by kernel_rfl) (by rfl) (fun K hK => ?_)
      refine wp_append_byt (.tmp 6) (.tmp 8) rfl rfl rfl ho3 hy3 (by have := HTL.out; simp only [List.length_cons, List.length_nil]; omega) hb3.size ?_
      intro v6 w6 ho6 hg6 _
      have hb6 := hb3.grown hg6 hb3.size (fun q hq => (World.ownsRow.lt ho3 q hq).1)
      refine hK.out _ _ (HX.out _ hb6) (fun hHeld => ?_)
      clear hK K
      try simp only [lay]
      refine call_on (i := 9) rfl (by kernel_rfl) (by rfl) (fun K hK => ?_)
      go_simp
      refine (HBT.out w6).mono ?_
      rintro e w7 ⟨v7, rfl, ho7, hb7'⟩
      have hb7 := hb6.trans (hb7'.mono hb6.size)
      refine hK.out _ _ (HX.out _ hb7) (fun hHeld => ?_)
      clear hK K
      try simp only [lay]
      refine call_on (i := 10) rfl (by kernel_rfl) (by rfl) (fun K hK => ?_)
      refine wp_append_byt (.tmp 9) (.tmp 12) rfl rfl rfl (ho6.below hb7') ho7.byt (by rw [List.length_append]; have := HTL.out; have := HOK.out.tg; simp only [List.length_cons, List.length_nil]; omega) hb7.size ?_
      intro v8 w8 ho8 hg8 _
      have hb8 := hb7.grown hg8 hb7.size (fun q hq => (World.ownsRow.lt (ho6.below hb7') q hq).1)
      refine hK.out _ _ (HX.out _ hb8) (fun hHeld => ?_)
      clear hK K
      try simp only [lay]
      refine' tk (i := 11) (v := _) rfl ?_ ?_
      rotate_left
      · (intro W hW; (try dsimp only at hW); go_simp; first | done | with_reducible rfl)
      try simp only [lay]
      refine wpAnyH_done (by kernel_rfl) ?_ _
      rw [HOE.out] at ho8
      have HF := hid (And.intro ho8 hb8)
      clear hHeld
      go_wp2_with fail
      go_meet
      case rel => exact HF.out
  case rest =>
    obtain ⟨hoc, hbc⟩ := hcut
    go_wp2_with fail
    go_ret
    exact ⟨_, rfl, hoc.more hs0, hb0.trans (hbc.mono hs0)⟩
end Go.Proofs.YtjemfmbmlmogcaaGreat
namespace Go.Proofs.YtjemfmbmlmogcaaGreat
set_option maxRecDepth 20000
open Go.RowKit
attribute [local go_sem ↓] exec_load_hash
set_option maxHeartbeats 1600000 in
theorem refSame10_any (va vb : Value) (a b : AcM) (w : World) (hva : AcV w va a) (hvb : AcV w vb b) :
    Calls Tryz.prog 33 #[va, vb] w fun e w' => e = .returned (.bool (decide (a = b))) ∧ Below w.heap.size w w' := by
  obtain ⟨sa, rfl, hoa, hta⟩ := hva
  obtain ⟨sb, rfl, hob, htb⟩ := hvb
  have hb0 : Below w.heap.size w ((w.alloc (.cells (axc a sa) 31)).alloc (.cells (axc b sb) 31)) := ((Below.refl _ _).alloc (Nat.le_refl _) _).alloc (by simp) _
  have hA : BoxX ((w.alloc (.cells (axc a sa) 31)).alloc (.cells (axc b sb) 31)) w.heap.size a sa := heap1 w _ _
  have hB : BoxX ((w.alloc (.cells (axc a sa) 31)).alloc (.cells (axc b sb) 31)) (w.heap.size + 1) b sb := heap2 w _ _
  have hta0 := hta.below hb0
  have htb0 := htb.below hb0
  obtain ⟨AA, ca, rfl⟩ := hta.shape
  obtain ⟨AB, cb, rfl⟩ := htb.shape
  obtain ⟨CA, HCA⟩ : ∃ C : Array Value, Hid (axc a (.slice AA a.fr.length ca) = C) := ⟨_, hid rfl⟩
  obtain ⟨CB, HCB⟩ : ∃ C : Array Value, Hid (axc b (.slice AB b.fr.length cb) = C) := ⟨_, hid rfl⟩
  rw [HCA.out, HCB.out] at hA hB hb0 hta0 htb0 ⊢
  obtain ⟨ans, HAN⟩ : ∃ q : Bool, Hid (decide (a = b) = q) := ⟨_, hid rfl⟩
  rw [HAN.out]
  go_enter Tryz.func33, Tryz.ntmps33
  go_upto_region 1 with (fail)
  generalize ((w.alloc (.cells CA 31)).alloc (.cells CB 31)) = w0 at *
  clear HCA HCB hta htb
  obtain ⟨k0, k1, k2⟩ := hA.ints
  obtain ⟨j0, j1, j2⟩ := hB.ints
  have k4 := hA.fr hoa
  have j4 := hB.fr hob
  have l3 := loadH_mid hA.pa hoa.pa
  have m3 := loadH_mid hB.pa hob.pa
  have l5 := loadH_mid (hA.tg hoa) hoa.tg
  have m5 := loadH_mid (hB.tg hob) hob.tg
  have e3 := eq_hash a.pa b.pa hoa.pa hob.pa w0
  have e5 := eq_hash a.tg b.tg hoa.tg hob.tg w0
  have k4d : ∀ n, (w0.drewN n).cell? ⟨w.heap.size, 35, none⟩ = some (.slice AA a.fr.length ca) := fun n => hA.fr hoa
  have j4d : ∀ n, (w0.drewN n).cell? ⟨w.heap.size + 1, 35, none⟩ = some (.slice AB b.fr.length cb) := fun n => hB.fr hob
  clear hA hB hoa hob
  obtain ⟨bo, vi, pv, pa, fr, tg⟩ := a
  obtain ⟨bo', vi', pv', pa', fr', tg'⟩ := b
  simp only at k0 k1 k2 j0 j1 j2 k4 j4 l3 m3 l5 m5 e3 e5 k4d j4d hta0 htb0 HAN
  obtain ⟨q3, HQ3⟩ : ∃ q : Bool, Hid (decide (pa = pa') = q) := ⟨_, hid rfl⟩
  obtain ⟨q5, HQ5⟩ : ∃ q : Bool, Hid (decide (tg = tg') = q) := ⟨_, hid rfl⟩
  rw [HQ3.out] at e3
  rw [HQ5.out] at e5
  obtain ⟨G3, HG3⟩ : ∃ C : Array Value, Hid (hcells pa = C) := ⟨_, hid rfl⟩
  obtain ⟨I3, HI3⟩ : ∃ C : Array Value, Hid (hcells pa' = C) := ⟨_, hid rfl⟩
  obtain ⟨G5, HG5⟩ : ∃ C : Array Value, Hid (hcells tg = C) := ⟨_, hid rfl⟩
  obtain ⟨I5, HI5⟩ : ∃ C : Array Value, Hid (hcells tg' = C) := ⟨_, hid rfl⟩
  rw [HG3.out] at l3 e3
  rw [HI3.out] at m3 e3
  rw [HG5.out] at l5 e5
  rw [HI5.out] at m5 e5
  obtain ⟨LA, HLA⟩ : ∃ n : Nat, Hid (fr.length = n) := ⟨_, hid rfl⟩
  obtain ⟨LB, HLB⟩ : ∃ n : Nat, Hid (fr'.length = n) := ⟨_, hid rfl⟩
  have hlena := hta0.len
  have hlenb := htb0.len
  rw [HLA.out] at k4 k4d hta0 hlena
  rw [HLB.out] at j4 j4d htb0 hlenb
  unfold maxLen at hlena hlenb
  have HTA := hid hta0
  have HTB := hid htb0
  have HA4 := hid k4d
  have HB4 := hid j4d
  clear hta0 htb0 k4d j4d
  by_cases n0 : ¬ bo = bo'
  · have t0 : (bo != bo') = true := by simpa using n0
    obtain rfl : ans = false := by
      rw [← HAN.out]
      exact decide_eq_false (fun e => by injection e with f0 f1 f2 f3 f4 f5; exact n0 f0)
    go_wp2_with fail
    go_ret
    exact ⟨rfl, hb0⟩
  have t0 : (bo != bo') = false := by simpa using n0
  by_cases n1 : ¬ vi = vi'
  · have t1 : (vi != vi') = true := by simpa using n1
    obtain rfl : ans = false := by
      rw [← HAN.out]
      exact decide_eq_false (fun e => by injection e with f0 f1 f2 f3 f4 f5; exact n1 f1)
    go_wp2_with fail
    go_ret
    exact ⟨rfl, hb0⟩
  have t1 : (vi != vi') = false := by simpa using n1
  by_cases n2 : ¬ pv = pv'
  · have t2 : (pv != pv') = true := by simpa using n2
    obtain rfl : ans = false := by
      rw [← HAN.out]
      exact decide_eq_false (fun e => by injection e with f0 f1 f2 f3 f4 f5; exact n2 f2)
    go_wp2_with fail
    go_ret
    exact ⟨rfl, hb0⟩
  have t2 : (pv != pv') = false := by simpa using n2
  cases q3 with
  | false =>
    obtain rfl : ans = false := by
      rw [← HAN.out]
      exact decide_eq_false (fun e => by injection e with f0 f1 f2 f3 f4 f5; exact of_decide_eq_false HQ3.out f3)
    go_wp2_with fail
    go_ret
    exact ⟨rfl, hb0⟩
  | true =>
  cases q5 with
  | false =>
    obtain rfl : ans = false := by
      rw [← HAN.out]
      exact decide_eq_false (fun e => by injection e with f0 f1 f2 f3 f4 f5; exact of_decide_eq_false HQ5.out f5)
    go_wp2_with fail
    go_ret
    exact ⟨rfl, hb0⟩
  | true =>
  by_cases n4 : ¬ LA = LB
  · have t4 : ((LA : Int) != (LB : Int)) = true := by simp; omega
    obtain rfl : ans = false := by
      rw [← HAN.out]
      exact decide_eq_false (fun e => by injection e with f0 f1 f2 f3 f4 f5; exact by subst f4; exact n4 (HLA.out.symm.trans HLB.out))
    go_wp2_with fail
    go_ret
    exact ⟨rfl, hb0⟩
  obtain rfl : LA = LB := by omega
  have t4 : ((LA : Int) != (LA : Int)) = false := by simp
  obtain ⟨_, hca1, hca2, hra⟩ := HTA.out.at_
  obtain ⟨_, hcb1, hcb2, hrb⟩ := HTB.out.at_
  rw [HLA.out] at hca1
  rw [HLB.out] at hcb1
  unfold maxLen at hca2 hcb2
  have HRA := hid hra
  have HRB := hid hrb
  have HEQ : Hid (bo = bo' ∧ vi = vi' ∧ pv = pv' ∧ pa = pa' ∧ tg = tg') := hid ⟨by omega, by omega, by omega, of_decide_eq_true HQ3.out, of_decide_eq_true HQ5.out⟩
  clear hra hrb
  go_wp2_with fail
  clear t0 t1 t2 t4 n0 n1 n2 n4 e3 e5 l3 m3 l5 m5 k0 k1 k2 j0 j1 j2 k4 j4
  go_loopw [5] (fun si wr => ∃ i : Nat, i ≤ LA ∧ si = .int .i64 i ∧ Hid (∀ j (h : j < fr.length) (h2 : j < fr'.length), j < i → fr[j] = fr'[j]) ∧ ∃ n, wr = w0.drewN n) (fun si _ => LA - (intOf si).toNat)
  case atStart => exact ⟨0, Nat.zero_le _, rfl, hid (fun j _ _ h => absurd h (by omega)), 0, rfl⟩
  case round =>
    obtain ⟨i, hi, rfl, HBB, n, rfl⟩ := hrel
    have a4d := HA4.out
    have b4d := HB4.out
    by_cases hlt : i < LA
    · have hil : i < fr.length := by rw [HLA.out]; exact hlt
      have him : i < fr'.length := by rw [HLB.out]; exact hlt
      obtain ⟨ba, oa', rfl, hba, hcla⟩ := HRA.out (by omega)
      obtain ⟨bb, ob', rfl, hbb, hclb⟩ := HRB.out (by omega)
      have l1 : ∀ k, (w0.drewN k).cell? ⟨ba, oa' + i, none⟩ = some (.int .i64 fr[i]) := fun k => by
        have := hcla i hil 0 _ rfl
        rwa [Nat.mul_one, Nat.add_zero] at this
      have l2 : ∀ k, (w0.drewN k).cell? ⟨bb, ob' + i, none⟩ = some (.int .i64 fr'[i]) := fun k => by
        have := hclb i him 0 _ rfl
        rwa [Nat.mul_one, Nat.add_zero] at this
      have hI : (i : Int) < (LA : Int) := by omega
      clear hcla hclb
      obtain ⟨x, HX⟩ : ∃ x : Int, Hid (fr[i] = x) := ⟨_, hid rfl⟩
      obtain ⟨y, HY⟩ : ∃ x : Int, Hid (fr'[i] = x) := ⟨_, hid rfl⟩
      rw [HX.out] at l1
      rw [HY.out] at l2
      by_cases hxy : x = y
      · have hd : (x != y) = false := by simpa using hxy
        have HXY : Hid (fr[i] = fr'[i]) := hid (by rw [HX.out, HY.out]; exact hxy)
        go_wp2_with fail
        go_quiet (fail)
        go_wp2_with fail
        go_roundw
        case rel =>
          refine ⟨i + 1, by omega, by go_num, hid (fun j h h2 hj => ?_), _, rfl⟩
          by_cases hji : j < i
          · exact HBB.out j h h2 hji
          · obtain rfl : j = i := by omega
            exact HXY.out
        case measure => simp [intOf]; omega
      · have hd : (x != y) = true := by simpa using hxy
        have e : ans = false := by
          rw [← HAN.out]
          exact decide_eq_false (fun e => by injection e with _ _ _ _ e _; subst e; exact hxy (HX.out.symm.trans HY.out))
        subst e
        go_wp2_with fail
        go_quiet (fail)
        go_wp2_with fail
        go_ret
        exact ⟨rfl, below_drewN (below_drewN hb0 _) _⟩
    · obtain rfl : i = LA := by omega
      have hI : ¬ (i : Int) < (i : Int) := by omega
      have e : ans = true := by
        rw [← HAN.out]
        refine decide_eq_true ?_
        obtain ⟨rfl, rfl, rfl, rfl, rfl⟩ := HEQ.out
        have ht : fr = fr' := List.ext_getElem (by rw [HLA.out, HLB.out]) fun j h h2 => HBB.out j h h2 (by have := HLA.out; omega)
        rw [ht]
      subst e
      go_wp2_with fail
      go_ret
      exact ⟨rfl, below_drewN hb0 n⟩
end Go.Proofs.YtjemfmbmlmogcaaGreat
namespace Go.Proofs.YtjemfmbmlmogcaaGreat
set_option maxRecDepth 20000
open Go.RowKit
def AcSameOk : Prop := ∀ (v u : Value) (a b : AcM) (w : World), AcV w v a → AcV w u b → a.fr.length ≤ 1000 → b.fr.length ≤ 1000 → Calls Tryz.prog 30 #[v, u] w fun e w' => e = .returned (.bool (decide (a = b))) ∧ Below w.heap.size w w'
def putX (l : List UInt8) (a : AcM) : List UInt8 := if mayX a = true then l ++ bytesX a else l
def AcPutOk : Prop := ∀ (v u : Value) (l : List UInt8) (a : AcM) (w : World), Byt w v l → l.length ≤ 1000000 → AcV w u a → a.fr.length ≤ 1000 → Calls Tryz.prog 59 #[v, u] w fun e w' => ∃ x, e = .returned x ∧ Byt w' x (putX l a) ∧ Below w.heap.size w w'
end Go.Proofs.YtjemfmbmlmogcaaGreat
