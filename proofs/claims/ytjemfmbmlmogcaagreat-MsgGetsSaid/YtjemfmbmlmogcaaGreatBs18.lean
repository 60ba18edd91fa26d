/-
  CtRead CtBytes CtSame CtOk CtCodeSame CtMk: what each of them says stands at its head.
-/
import Derived.LoopTactic
import Derived.Test.YtjemfmbmlmogcaaGreatBs13
import Derived.Test.YtjemfmbmlmogcaaGreatBs17
import Derived.Deep.RegionHeld3
import Derived.Test.YtjemfmbmlmogcaaGreatBs12
import Derived.BigQuiet
import Derived.Deep.DeepCutAuto
import Derived.Deep.QuietTactic
import Derived.Outline
import Derived.Test.YtjemfmbmlmogcaaGreatBs16
import Derived.Test.YtjemfmbmlmogcaaGreatBs1
import Derived.Test.YtjemfmbmlmogcaaGreatBs7
namespace Go.Proofs.YtjemfmbmlmogcaaGreat
set_option maxRecDepth 20000
open Go.RowKit
attribute [local go_sem ↓] exec_load_ct exec_alloc_ct exec_store_ct exec_build_ct exec_load_sg exec_alloc_sg exec_store_sg exec_build_sg exec_slice_sg
theorem results_rc {fn : Func} {p q s : Tmp} (h : fn.results = #[.cell p 83, .cell q 28, .tmp s]) (tmps : Array Value) (w : World) (g1 g2 : Nat) (t1 t2 : TypeId) (xs ys : Array Value) (v : Value)
    (hp : tmps.getD p undef = .pointer (some ⟨g1, 0, none⟩)) (hq : tmps.getD q undef = .pointer (some ⟨g2, 0, none⟩)) (hv : tmps.getD s undef = v) (h1 : w.heap[g1]? = some (.cells xs t1 (0, 0))) (h2 : w.heap[g2]? = some (.cells ys t2 (0, 0))) (hx : xs.size = 3) (hy : ys.size = 102) :
    (results fn tmps).run Tryz.prog w = .ok (.tuple #[.agg xs, .agg ys, v]) w := by
  have hp' : tmps[p]?.getD undef = .pointer (some ⟨g1, 0, none⟩) := by simpa using hp
  have hq' : tmps[q]?.getD undef = .pointer (some ⟨g2, 0, none⟩) := by simpa using hq
  have hv' : tmps[s]?.getD undef = v := by simpa using hv
  have r1 := run_loadVar_row (P := Tryz.prog) w g1 t1 83 xs (0, 0) _ h1 under_ref rfl (by rw [size_ref, hx])
  have r2 := run_loadVar_row (P := Tryz.prog) w g2 t2 28 ys (0, 0) _ h2 under_ct rfl (by rw [size_ct, hy])
  simp [results, h, hp', hq', hv', asAddr, r1, r2]
def CtN (B : Nat) (w : World) (v : Value) (c : CtM) : Prop := ∃ s, v = .agg (ctc c s) ∧ c.Ok ∧ OwnE scl 33 111 B w s c.sg
def CrPost (A : Option Addr) (c p : Nat) (r : Bool) (l : List UInt8) (w : World) (e : Ending) (w' : World) : Prop :=
  ∃ x, e = .returned (.tuple #[rv A l.length c (rawC l p r).2.1 (!(rawC l p r).2.2), x, .bool (ctIs l p r)]) ∧ CtN w.heap.size w' x (ctOf l p r) ∧ Below w.heap.size w w'
section
variable {A : Option Addr} {c p q : Nat} {r t : Bool} {l : List UInt8} {w w' : World} {cc : CtM} {s : Value}
theorem crPost_no (hr : rawC l p r = (cc, q, t)) (hi : ctIs l p r = false) (hb : Below w.heap.size w w') : CrPost A c p r l w (.returned (.tuple #[rv A l.length c q (!t), .agg (ctc ctZ (.slice none 0 0)), .bool false])) w' := by
  refine ⟨.agg (ctc ctZ (.slice none 0 0)), ?_, ?_, hb⟩
  · rw [hr, hi]
  · unfold ctOf
    rw [hi, if_neg (by decide)]
    exact ⟨_, rfl, ctZ_ok, OwnE.nil _ _⟩
theorem crPost_yes (hr : rawC l p r = (cc, q, true)) (hi : ctIs l p r = true) (ho : cc.Ok) (hs : OwnE scl 33 111 w.heap.size w' s cc.sg) (hb : Below w.heap.size w w') : CrPost A c p r l w (.returned (.tuple #[rv A l.length c q false, .agg (ctc cc s), .bool true])) w' := by
  refine ⟨.agg (ctc cc s), ?_, ?_, hb⟩
  · rw [hr, hi]
    rfl
  · unfold ctOf
    rw [hi, if_pos rfl, hr]
    exact ⟨_, rfl, ho, hs⟩
end
set_option maxHeartbeats 12800000 in
theorem refRead9_post (A : Option Addr) (c p : Nat) (r : Bool) (l : List UInt8) (w : World) (hv : Byt w (.slice A l.length c) l) (hp : p ≤ l.length) (hl : l.length ≤ 1000000) :
    Calls Tryz.prog 47 #[rv A l.length c p (!r)] w (CrPost A c p r l w) := by
  have HH := hid (fun p r (hp : p ≤ l.length) (w' : World) (hb : Below w.heap.size w w') => refHash_any A c p r l w' (hv.below hb) hp (by omega))
  have HU := hid (fun p r (hp : p ≤ l.length) m (h1 : -9223372036854775808 ≤ m) (h2 : m ≤ 9223372036854775807) (w' : World) (hb : Below w.heap.size w w') => refUpto_any A c p r l m w' (hv.below hb) hp (by omega) h1 h2)
  obtain ⟨Z, HZ⟩ : ∃ C : Array Value, Hid (ctc ctZ (.slice none 0 0) = C) := ⟨_, hid rfl⟩
  have hbz : ∀ W, buildCt W = .ok (.value (.agg Z)) W := fun W => by rw [← HZ.out]; exact buildCt_eq W
  have hal : ∀ W, allocCt W = .ok (.value (.pointer (some ⟨W.heap.size, 0, none⟩))) (W.alloc (.cells Z 28)) := fun W => by rw [← HZ.out]; exact allocCt_eq W
  have hsz : Z.size = 102 := by rw [← HZ.out]; exact ctc_size _ atZ_ok
  have hz1 : Z.all (·.oneCell') = true := by rw [← HZ.out]; exact ctc_one (w := w) (c := ctZ) (Els.nil w)
  have hst0 := CtSt.new w (.slice A l.length c) (.int .i64 (p : Int)) (.bool (!r))
  rw [HZ.out] at hst0
  have hs0 : storeCt (.pointer (some ⟨w.heap.size + 1 + 1 + 1, 0, none⟩)) (.agg Z) ((((w.alloc (.cells #[.slice A l.length c, .int .i64 (p : Int), .bool (!r)] 83)).alloc (.cells #[.slice none 0 0, .int .i64 0, .bool false] 83)).alloc (.cells Z 28)).alloc (.cells Z 28)) = .ok .skip ((((w.alloc (.cells #[.slice A l.length c, .int .i64 (p : Int), .bool (!r)] 83)).alloc (.cells #[.slice none 0 0, .int .i64 0, .bool false] 83)).alloc (.cells Z 28)).alloc (.cells Z 28)) := by
    have hg : BoxC _ _ ctZ _ := hst0.b3
    unfold BoxC at hg
    rw [HZ.out] at hg
    rw [storeCt_eq hg hsz hsz hz1, setCt_self hg]
  have HSZ := hid hsz
  have HZ1 := hid hz1
  have HBZ := hid hbz
  clear hv hsz hz1
  unfold rv
  go_enter Tryz.func47, Tryz.ntmps47
  go_wp2_with fail
  obtain ⟨a1, p1, r1, HA1⟩ : ∃ x q s, Hid (rdUpto 3 l p r = (x, q, s)) := ⟨_, _, _, hid rfl⟩
  have hp1 : p1 ≤ l.length := by have := rdUpto_pl (m := 3) (r := r) hp; rw [HA1.out] at this; exact this
  have C := HU.out p r hp 3 (by omega) (by omega) _ (hst0).bel
  rw [HA1.out] at C
  refine C.mono ?_
  clear C
  rintro e w1 ⟨rfl, hb⟩
  have hst : CtSt w w1 (.slice A l.length c) (.int .i64 (p : Int)) (.bool (!r)) ⟨0, 0, 0, 0, z32, 0, z32, z32⟩ (.slice none 0 0) := (hst0).below hb
  clear hb hst0 hs0 hbz hal
  obtain ⟨⟨c0, c1, c2⟩, ⟨k0, k1, k2, k3, k5⟩, g0, g3⟩ := hst.cells ⟨rfl, rfl, rfl⟩
  have HST := hid hst
  clear hst
  unfold rv
  go_wp2_with fail
  obtain ⟨a2, p2, r2, HA2⟩ : ∃ x q s, Hid (rdUpto 1099511627776 l p1 r1 = (x, q, s)) := ⟨_, _, _, hid rfl⟩
  have hp2 : p2 ≤ l.length := by have := rdUpto_pl (m := 1099511627776) (r := r1) hp1; rw [HA2.out] at this; exact this
  have C := HU.out p1 r1 hp1 1099511627776 (by omega) (by omega) _ (((HST.out.put (.slice A l.length c) (.int .i64 (p1 : Int)) (.bool (!r1))).cell ⟨rfl, rfl, rfl⟩ (b := ⟨0, (a1 : Int), 0, 0, z32, 0, z32, z32⟩) (v := .int .i64 (a1 : Int)) 1 (by omega) rfl)).bel
  rw [HA2.out] at C
  refine C.mono ?_
  clear C
  rintro e w2 ⟨rfl, hb⟩
  have hst : CtSt w w2 (.slice A l.length c) (.int .i64 (p1 : Int)) (.bool (!r1)) ⟨0, (a1 : Int), 0, 0, z32, 0, z32, z32⟩ (.slice none 0 0) := (((HST.out.put (.slice A l.length c) (.int .i64 (p1 : Int)) (.bool (!r1))).cell ⟨rfl, rfl, rfl⟩ (b := ⟨0, (a1 : Int), 0, 0, z32, 0, z32, z32⟩) (v := .int .i64 (a1 : Int)) 1 (by omega) rfl)).below hb
  clear hb HST c0 c1 c2 k0 k1 k2 k3 k5 g0 g3
  obtain ⟨⟨c0, c1, c2⟩, ⟨k0, k1, k2, k3, k5⟩, g0, g3⟩ := hst.cells ⟨rfl, rfl, rfl⟩
  have HST := hid hst
  clear hst
  unfold rv
  go_wp2_with fail
  obtain ⟨a3, p3, r3, HA3⟩ : ∃ x q s, Hid (rdUpto 3 l p2 r2 = (x, q, s)) := ⟨_, _, _, hid rfl⟩
  have hp3 : p3 ≤ l.length := by have := rdUpto_pl (m := 3) (r := r2) hp2; rw [HA3.out] at this; exact this
  have C := HU.out p2 r2 hp2 3 (by omega) (by omega) _ (((HST.out.put (.slice A l.length c) (.int .i64 (p2 : Int)) (.bool (!r2))).cell ⟨rfl, rfl, rfl⟩ (b := ⟨0, (a1 : Int), (a2 : Int), 0, z32, 0, z32, z32⟩) (v := .int .i64 (a2 : Int)) 2 (by omega) rfl)).bel
  rw [HA3.out] at C
  refine C.mono ?_
  clear C
  rintro e w3 ⟨rfl, hb⟩
  have hst : CtSt w w3 (.slice A l.length c) (.int .i64 (p2 : Int)) (.bool (!r2)) ⟨0, (a1 : Int), (a2 : Int), 0, z32, 0, z32, z32⟩ (.slice none 0 0) := (((HST.out.put (.slice A l.length c) (.int .i64 (p2 : Int)) (.bool (!r2))).cell ⟨rfl, rfl, rfl⟩ (b := ⟨0, (a1 : Int), (a2 : Int), 0, z32, 0, z32, z32⟩) (v := .int .i64 (a2 : Int)) 2 (by omega) rfl)).below hb
  clear hb HST c0 c1 c2 k0 k1 k2 k3 k5 g0 g3
  obtain ⟨⟨c0, c1, c2⟩, ⟨k0, k1, k2, k3, k5⟩, g0, g3⟩ := hst.cells ⟨rfl, rfl, rfl⟩
  have HST := hid hst
  clear hst
  unfold rv
  go_wp2_with fail
  obtain ⟨h4, p4, r4, HA4⟩ : ∃ x q s, Hid (rdHash l p3 r3 = (x, q, s)) := ⟨_, _, _, hid rfl⟩
  have hp4 : p4 ≤ l.length := by have := rdHash_pl8 (l := l) (p := p3) (r := r3) hp3; rw [HA4.out] at this; exact this
  have HL4 : Hid (h4.length = 32) := hid (by have := rdHash_32 l p3 r3; rw [HA4.out] at this; exact this)
  have C := HH.out p3 r3 hp3 _ (((HST.out.put (.slice A l.length c) (.int .i64 (p3 : Int)) (.bool (!r3))).cell ⟨rfl, rfl, rfl⟩ (b := ⟨0, (a1 : Int), (a2 : Int), (a3 : Int), z32, 0, z32, z32⟩) (v := .int .i64 (a3 : Int)) 3 (by omega) rfl)).bel
  rw [HA4.out] at C
  refine C.mono ?_
  clear C
  rintro e w4 ⟨rfl, hb⟩
  have hst : CtSt w w4 (.slice A l.length c) (.int .i64 (p3 : Int)) (.bool (!r3)) ⟨0, (a1 : Int), (a2 : Int), (a3 : Int), z32, 0, z32, z32⟩ (.slice none 0 0) := (((HST.out.put (.slice A l.length c) (.int .i64 (p3 : Int)) (.bool (!r3))).cell ⟨rfl, rfl, rfl⟩ (b := ⟨0, (a1 : Int), (a2 : Int), (a3 : Int), z32, 0, z32, z32⟩) (v := .int .i64 (a3 : Int)) 3 (by omega) rfl)).below hb
  clear hb HST c0 c1 c2 k0 k1 k2 k3 k5 g0 g3
  obtain ⟨⟨c0, c1, c2⟩, ⟨k0, k1, k2, k3, k5⟩, g0, g3⟩ := hst.cells ⟨rfl, rfl, rfl⟩
  have HST := hid hst
  clear hst
  unfold rv
  go_wp2_with (refine wpList_store_cha rfl _ _ rfl rfl rfl (HST.out.put (.slice A l.length c) (.int .i64 (p4 : Int)) (.bool (!r4))).b3 ⟨rfl, rfl, rfl⟩ HL4.out ?_; intro wP hgP hbP hsP; have HSP : Hid (CtSt w wP (.slice A l.length c) (.int .i64 (p4 : Int)) (.bool (!r4)) ⟨0, (a1 : Int), (a2 : Int), (a3 : Int), h4, 0, z32, z32⟩ (.slice none 0 0)) := hid ((HST.out.put (.slice A l.length c) (.int .i64 (p4 : Int)) (.bool (!r4))).att hgP hbP); obtain ⟨⟨d0, d1, d2⟩, ⟨e0, e1, e2, e3, e5⟩, f0, f3⟩ := HSP.out.cells ⟨HL4.out, rfl, rfl⟩; clear hgP hbP hsP)
  clear HST c0 c1 c2 k0 k1 k2 k3 k5 g0 g3
  obtain ⟨a5, p5, r5, HA5⟩ : ∃ x q s, Hid (rdUpto 1099511627776 l p4 r4 = (x, q, s)) := ⟨_, _, _, hid rfl⟩
  have hp5 : p5 ≤ l.length := by have := rdUpto_pl (m := 1099511627776) (r := r4) hp4; rw [HA5.out] at this; exact this
  have C := HU.out p4 r4 hp4 1099511627776 (by omega) (by omega) _ (HSP.out).bel
  rw [HA5.out] at C
  refine C.mono ?_
  clear C
  rintro e w5 ⟨rfl, hb⟩
  have hst : CtSt w w5 (.slice A l.length c) (.int .i64 (p4 : Int)) (.bool (!r4)) ⟨0, (a1 : Int), (a2 : Int), (a3 : Int), h4, 0, z32, z32⟩ (.slice none 0 0) := (HSP.out).below hb
  clear hb HSP d0 d1 d2 e0 e1 e2 e3 e5 f0 f3
  obtain ⟨⟨c0, c1, c2⟩, ⟨k0, k1, k2, k3, k5⟩, g0, g3⟩ := hst.cells ⟨HL4.out, rfl, rfl⟩
  have HST := hid hst
  clear hst
  unfold rv
  go_wp2_with fail
  obtain ⟨h6, p6, r6, HA6⟩ : ∃ x q s, Hid (rdHash l p5 r5 = (x, q, s)) := ⟨_, _, _, hid rfl⟩
  have hp6 : p6 ≤ l.length := by have := rdHash_pl8 (l := l) (p := p5) (r := r5) hp5; rw [HA6.out] at this; exact this
  have HL6 : Hid (h6.length = 32) := hid (by have := rdHash_32 l p5 r5; rw [HA6.out] at this; exact this)
  have C := HH.out p5 r5 hp5 _ (((HST.out.put (.slice A l.length c) (.int .i64 (p5 : Int)) (.bool (!r5))).cell ⟨HL4.out, rfl, rfl⟩ (b := ⟨0, (a1 : Int), (a2 : Int), (a3 : Int), h4, (a5 : Int), z32, z32⟩) (v := .int .i64 (a5 : Int)) 36 (by omega) (atc_pv ⟨HL4.out, rfl, rfl⟩ _))).bel
  rw [HA6.out] at C
  refine C.mono ?_
  clear C
  rintro e w6 ⟨rfl, hb⟩
  have hst : CtSt w w6 (.slice A l.length c) (.int .i64 (p5 : Int)) (.bool (!r5)) ⟨0, (a1 : Int), (a2 : Int), (a3 : Int), h4, (a5 : Int), z32, z32⟩ (.slice none 0 0) := (((HST.out.put (.slice A l.length c) (.int .i64 (p5 : Int)) (.bool (!r5))).cell ⟨HL4.out, rfl, rfl⟩ (b := ⟨0, (a1 : Int), (a2 : Int), (a3 : Int), h4, (a5 : Int), z32, z32⟩) (v := .int .i64 (a5 : Int)) 36 (by omega) (atc_pv ⟨HL4.out, rfl, rfl⟩ _))).below hb
  clear hb HST c0 c1 c2 k0 k1 k2 k3 k5 g0 g3
  obtain ⟨⟨c0, c1, c2⟩, ⟨k0, k1, k2, k3, k5⟩, g0, g3⟩ := hst.cells ⟨HL4.out, rfl, rfl⟩
  have HST := hid hst
  clear hst
  unfold rv
  go_wp2_with (refine wpList_store_cpa rfl _ _ rfl rfl rfl (HST.out.put (.slice A l.length c) (.int .i64 (p6 : Int)) (.bool (!r6))).b3 ⟨HL4.out, rfl, rfl⟩ HL6.out ?_; intro wP hgP hbP hsP; have HSP : Hid (CtSt w wP (.slice A l.length c) (.int .i64 (p6 : Int)) (.bool (!r6)) ⟨0, (a1 : Int), (a2 : Int), (a3 : Int), h4, (a5 : Int), h6, z32⟩ (.slice none 0 0)) := hid ((HST.out.put (.slice A l.length c) (.int .i64 (p6 : Int)) (.bool (!r6))).att hgP hbP); obtain ⟨⟨d0, d1, d2⟩, ⟨e0, e1, e2, e3, e5⟩, f0, f3⟩ := HSP.out.cells ⟨HL4.out, HL6.out, rfl⟩; clear hgP hbP hsP)
  clear HST c0 c1 c2 k0 k1 k2 k3 k5 g0 g3
  obtain ⟨a7, p7, r7, HA7⟩ : ∃ x q s, Hid (rdUpto 21 l p6 r6 = (x, q, s)) := ⟨_, _, _, hid rfl⟩
  have hp7 : p7 ≤ l.length := by have := rdUpto_pl (m := 21) (r := r6) hp6; rw [HA7.out] at this; exact this
  have C := HU.out p6 r6 hp6 21 (by omega) (by omega) _ (HSP.out).bel
  rw [HA7.out] at C
  refine C.mono ?_
  clear C
  rintro e w7 ⟨rfl, hb⟩
  have hst : CtSt w w7 (.slice A l.length c) (.int .i64 (p6 : Int)) (.bool (!r6)) ⟨0, (a1 : Int), (a2 : Int), (a3 : Int), h4, (a5 : Int), h6, z32⟩ (.slice none 0 0) := (HSP.out).below hb
  clear hb HSP d0 d1 d2 e0 e1 e2 e3 e5 f0 f3
  obtain ⟨⟨c0, c1, c2⟩, ⟨k0, k1, k2, k3, k5⟩, g0, g3⟩ := hst.cells ⟨HL4.out, HL6.out, rfl⟩
  have HST := hid hst
  clear hst
  unfold rv
  have HN21 : Hid (a7 ≤ 21) := hid (by have := rdUpto_le (m := 21) (l := l) (p := p6) (r := r6); rw [show ((21 : Nat) : Int) = 21 from rfl, HA7.out] at this; exact this)
  obtain ⟨a, HAT⟩ : ∃ a : AtM, Hid ((⟨0, (a1 : Int), (a2 : Int), (a3 : Int), h4, (a5 : Int), h6, z32⟩ : AtM) = a) := ⟨_, hid rfl⟩
  have HOK : Hid a.Ok := hid (by rw [← HAT.out]; exact ⟨HL4.out, HL6.out, rfl⟩)
  have HRAW : Hid (rawC l p r = (⟨a, (rdSigs l p7 r7 a7).1⟩, (rdSigs l p7 r7 a7).2)) := hid (by rw [← HAT.out]; unfold rawC; simp only [HA1.out, HA2.out, HA3.out, HA4.out, HA5.out, HA6.out, HA7.out])
  go_wp2_with fail
  have HST7 := hid (HST.out.put (.slice A l.length c) (.int .i64 (p7 : Int)) (.bool (!r7)))
  rw [HAT.out] at HST7
  clear HST c0 c1 c2 k0 k1 k2 k3 k5 g0 g3 HA1 HA2 HA3 HA4 HA5 HA6 HA7 HAT HL4 HL6
  go_loopw [7] (fun si wr => ∃ (i : Nat) (s : Value), i ≤ a7 ∧ si = .int .i64 (i : Int) ∧ CtSt w wr (.slice A l.length c) (.int .i64 ((rdSigs l p7 r7 i).2.1 : Int)) (.bool (!(rdSigs l p7 r7 i).2.2)) a s ∧ OwnE scl 33 111 (w.heap.size + 1 + 1 + 1 + 1) wr s (rdSigs l p7 r7 i).1 ∧ (rdSigs l p7 r7 i).2.1 ≤ l.length) (fun si _ => a7 - (intOf si).toNat)
  case atStart => exact ⟨0, _, Nat.zero_le _, rfl, HST7.out, OwnE.nil _ _, hp7⟩
  case round =>
    obtain ⟨i, s, hi, rfl, hst, hown, hpl⟩ := hrel
    by_cases hlt : i < a7
    · obtain ⟨L, q, t, HR⟩ : ∃ x y z, Hid (rdSigs l p7 r7 i = (x, y, z)) := ⟨_, _, _, hid rfl⟩
      have HLN : Hid (L.length ≤ 21) := hid (by have := rdSigs_len l p7 r7 i; rw [HR.out] at this; have := HN21.out; simp only at *; omega)
      rw [HR.out] at hst hown hpl
      simp only at hst hown hpl
      obtain ⟨x8, q8, t8, HA8⟩ : ∃ x y z, Hid (rdUpto 21 l q t = (x, y, z)) := ⟨_, _, _, hid rfl⟩
      obtain ⟨h9, q9, t9, HA9⟩ : ∃ x y z, Hid (rdHash l q8 t8 = (x, y, z)) := ⟨_, _, _, hid rfl⟩
      have hq8 : q8 ≤ l.length := by have := rdUpto_pl (m := 21) (r := t) hpl; rw [HA8.out] at this; exact this
      have hq9 : q9 ≤ l.length := by have := rdHash_pl8 (l := l) (p := q8) (r := t8) hq8; rw [HA9.out] at this; exact this
      have HL9 : Hid (h9.length = 32) := hid (by have := rdHash_32 l q8 t8; rw [HA9.out] at this; exact this)
      have HRN : Hid (rdSigs l p7 r7 (i + 1) = (L ++ [⟨(x8 : Int), h9⟩], q9, t9)) := hid (by unfold rdSigs; simp only [HR.out, HA8.out, HA9.out])
      have HI : Hid (i < a7) := hid hlt
      have h21 := HN21.out
      have hI : (i : Int) < (a7 : Int) := by omega
      have hlts := hst.lt
      have hob : Hid (∀ b, s.ownBlock = some b → b < wr.heap.size) := hid (fun b e => (World.ownsRow.lt hown b e).2)
      have hob2 : Hid (∀ b, s.ownBlock = some b → w.heap.size + 1 + 1 + 1 < b) := hid (fun b e => (World.ownsRow.lt hown b e).1)
      obtain ⟨ZS, HZS⟩ : ∃ C : Array Value, Hid (sgc sgZ = C) := ⟨_, hid rfl⟩
      have hbs : ∀ W, buildSg W = .ok (.value (.agg ZS)) W := fun W => by rw [← HZS.out]; exact buildSg_eq W
      have has : ∀ W, allocSg W = .ok (.value (.pointer (some ⟨W.heap.size, 0, none⟩))) (W.alloc (.cells ZS 111)) := fun W => by rw [← HZS.out]; exact allocSg_eq W
      have hss : storeSg (.pointer (some ⟨wr.heap.size, 0, none⟩)) (.agg ZS) (wr.alloc (.cells ZS 111)) = .ok .skip (wr.alloc (.cells ZS 111)) := by rw [← HZS.out]; exact sg_var wr (sgc_size sgZ_ok) (sgc_size sgZ_ok) (sgc_one _)
      have hbA : Below wr.heap.size wr (wr.alloc (.cells ZS 111)) := (Below.refl _ _).alloc (Nat.le_refl _) _
      have HSTA := hid (hst.below hbA)
      have HOWA := hid (hown.alloc (.cells ZS 111))
      have HRA := hid (heap_alloc_new wr (.cells ZS 111))
      obtain ⟨⟨c0, c1, c2⟩, _, g0, _⟩ := HSTA.out.cells HOK.out
      clear hst hown hbA
      go_wp2_with fail
      have C := HU.out q t hpl 21 (by omega) (by omega) _ HSTA.out.bel
      rw [HA8.out] at C
      refine C.mono ?_
      clear C
      rintro e w8 ⟨rfl, hb8⟩
      have hst8 := HSTA.out.below hb8
      have hr8 := (hb8.block _ (lt_of_block HRA.out)).trans HRA.out
      have how8 := HOWA.out.below hb8
      rw [← HZS.out] at hr8
      clear c0 c1 c2 g0 hbs has hss hb8
      obtain ⟨⟨c0, c1, c2⟩, _, g0, _⟩ := hst8.cells HOK.out
      have s0 : w8.cell? ⟨wr.heap.size, 0, none⟩ = some (.int .i64 0) := cell_blk hr8 0
      have g1 := free_blk hr8
      have HST8 := hid hst8
      have HR8 := hid hr8
      have HOW8 := hid how8
      have n1 : ¬ wr.heap.size = w.heap.size := by omega
      have n2 : ¬ w.heap.size = wr.heap.size := by omega
      clear hst8 hr8 how8
      unfold rv
      go_wp2_with fail
      have HSTB := hid ((HST8.out.put (.slice A l.length c) (.int .i64 (q8 : Int)) (.bool (!t8))).far hlts 0 (.int .i64 (x8 : Int)))
      have C := HH.out q8 t8 hq8 _ HSTB.out.bel
      rw [HA9.out] at C
      refine C.mono ?_
      clear C
      rintro e w9 ⟨rfl, hb9⟩
      have hst9 := HSTB.out.below hb9
      have hrB := set_blk (blk_other (blk_other (blk_other HR8.out (.slice A l.length c) (i := 0) (b := w.heap.size) n1) (.int .i64 (q8 : Int)) (i := 1) (b := w.heap.size) n1) (.bool (!t8)) (i := 2) (b := w.heap.size) n1) 0 (.int .i64 (x8 : Int))
      rw [show sgc sgZ = sgc ⟨0, z32⟩ from rfl, sgc_by] at hrB
      have hr9 := (hb9.block _ (lt_of_block hrB)).trans hrB
      have how9 := ((((HOW8.out.set (g := w.heap.size) (by omega) 0 (.slice A l.length c)).set (g := w.heap.size) (by omega) 1 (.int .i64 (q8 : Int))).set (g := w.heap.size) (by omega) 2 (.bool (!t8))).keep (fun b _ e => Below.heap_setCell _ ⟨wr.heap.size, 0, none⟩ (.int .i64 (x8 : Int)) b (fun e' => by have := hob.out b e; simp only at e'; omega))).below hb9
      clear c0 c1 c2 g0 g1 s0 hb9 hrB
      obtain ⟨⟨c0, c1, c2⟩, _, g0, _⟩ := hst9.cells HOK.out
      have HSTC := hid (hst9.put (.slice A l.length c) (.int .i64 (q9 : Int)) (.bool (!t9)))
      have HOWC := hid (((how9.set (g := w.heap.size) (by omega) 0 (.slice A l.length c)).set (g := w.heap.size) (by omega) 1 (.int .i64 (q9 : Int))).set (g := w.heap.size) (by omega) 2 (.bool (!t9)))
      have HRC := hid (blk_other (blk_other (blk_other hr9 (.slice A l.length c) (i := 0) (b := w.heap.size) n1) (.int .i64 (q9 : Int)) (i := 1) (b := w.heap.size) n1) (.bool (!t9)) (i := 2) (b := w.heap.size) n1)
      clear hst9 how9 hr9
      obtain ⟨G, HG⟩ : ∃ C : Array Value, Hid (sgc ⟨(x8 : Int), h9⟩ = C) := ⟨_, hid rfl⟩
      have hGS : G.size = 33 := by rw [← HG.out]; exact sgc_size HL9.out
      have hsl : ∀ W, sliceSg (.agg G) W = .ok (.value (.slice (some ⟨W.heap.size, 0, none⟩) 1 1)) (W.alloc (.cells G 111)) := fun W => by rw [← HG.out]; exact sliceSg_eq ⟨(x8 : Int), h9⟩ HL9.out W
      have HGL : Hid ((scl ⟨(x8 : Int), h9⟩).toArray = G) := hid HG.out
      have HSGK : Hid (∀ u ∈ [(⟨(x8 : Int), h9⟩ : SgM)], u.Ok) := hid (fun u hu => by obtain rfl := List.mem_singleton.1 hu; exact HL9.out)
      unfold rv
      go_upto_region 16 with (refine wpList_store_midh (pre := [.int .i64 (x8 : Int)]) (old := bcells z32) (post := []) rfl _ _ rfl rfl rfl HRC.out rfl rfl HL9.out ?_; intro wP hgP hrP hsP; have HSP := hid (HSTC.out.grown hgP (fun k hk => by injection hk with hk; omega)); have HOWP := hid (HOWC.out.keep (fun b hb e => hgP.block b hb (fun e' => by injection e' with e'; have := hob.out b e; omega))); have HRP : Hid (wP.heap[wr.heap.size]? = some (.cells G 111 (0, 0))) := hid (by rw [← HG.out]; unfold sgc scl; rw [List.append_nil] at hrP; exact hrP); have hld : loadSg (.pointer (some ⟨wr.heap.size, 0, none⟩)) wP = .ok (.value (.agg G)) wP := (by rw [← HG.out]; exact loadSg_mid (s := ⟨(x8 : Int), h9⟩) (fun j u hu => by rw [Nat.zero_add, cell_blk HRP.out j, ← HG.out]; unfold sgc; rw [List.getElem?_toArray]; exact hu) HL9.out); obtain ⟨_, ⟨_, _, _, _, k5⟩, _, g3⟩ := HSP.out.cells HOK.out; clear hgP hrP hsP)
      go_wp2_with (at_builtin; go_loud (refine eltSg.wpList_append (x := .slice (some ⟨wP.heap.size, 0, none⟩) 1 1) (m := [(⟨(x8 : Int), h9⟩ : SgM)]) rfl (.tmp 76) (.tmp 78) rfl rfl rfl HSGK.out (HOWP.out.alloc _) (els_one wP (⟨(x8 : Int), h9⟩ : SgM) G 111 HGL.out) (by have := HLN.out; simp only [List.length_cons, List.length_nil]; omega) (Nat.le_trans HSP.out.lt (al_le _ _)) ?_; intro v10 w10 ho10 hg10 hv10; have HST11 := hid ((HSP.out.below ((Below.refl _ _).alloc (Nat.le_refl _) _)).grown hg10 (fun k hk => hob2.out k hk)); obtain ⟨_, ⟨_, _, _, _, k6⟩, _, g4⟩ := HST11.out.cells HOK.out; obtain ⟨A9, n9, c9, rfl⟩ : ∃ A n c, v10 = .slice A n c := (by obtain ⟨A, c, e⟩ := ho10.shape; exact ⟨_, _, _, e⟩); clear hg10 hv10))
      go_roundw
      case rel =>
        refine ⟨i + 1, .slice A9 n9 c9, by omega, by go_num, ?_, ?_, ?_⟩
        · rw [HRN.out]
          exact HST11.out.sig HOK.out _
        · rw [HRN.out]
          exact ho10.set (g := w.heap.size + 1 + 1 + 1) (by omega) 101 _
        · rw [HRN.out]
          exact hq9
      case measure => simp [intOf]; omega
    · obtain rfl : i = a7 := by omega
      have hI : ¬ (i : Int) < (i : Int) := by omega
      obtain ⟨L, q, t, HR⟩ : ∃ x y z, Hid (rdSigs l p7 r7 i = (x, y, z)) := ⟨_, _, _, hid rfl⟩
      have HLO : Hid (∀ x ∈ L, x.Ok) := hid (by have := rdSigs_ok l p7 r7 i; rw [HR.out] at this; exact this)
      have HRW : Hid (rawC l p r = (⟨a, L⟩, q, t)) := hid (by rw [HRAW.out, HR.out])
      rw [HR.out] at hst hown
      simp only at hst hown
      have HST := hid hst
      have HOW := hid hown
      clear hst hown
      obtain ⟨SA, SN, SC, rfl⟩ : ∃ A n c, s = .slice A n c := by obtain ⟨A, c, e⟩ := HOW.out.shape; exact ⟨_, _, _, e⟩
      obtain ⟨CA, HCA⟩ : ∃ C : Array Value, Hid (ctc ⟨a, L⟩ (.slice SA SN SC) = C) := ⟨_, hid rfl⟩
      have HCS : Hid (CA.size = 102 ∧ CA.all (·.oneCell') = true) := hid (by rw [← HCA.out]; exact ⟨ctc_size (c := ⟨a, L⟩) _ HOK.out, ctc_one (c := ⟨a, L⟩) (HOW.out.els eltSg HLO.out)⟩)
      obtain ⟨m, HM⟩ : ∃ b : Bool, Hid (mayC ⟨a, L⟩ = b) := ⟨_, hid rfl⟩
      have HIS : Hid (ctIs l p r = (t && m)) := hid (by unfold ctIs; rw [HRW.out, HM.out])
      cases t with
      | false =>
        have HI : Hid (ctIs l p r = false) := hid (by rw [HIS.out]; rfl)
        have hbz := HBZ.out
        have i0 := cell_blk HST.out.b1 0
        have i1 := cell_blk HST.out.b1 1
        have i2 := cell_blk HST.out.b1 2
        have j1 := free_blk HST.out.b1
        simp at i0 i1 i2
        obtain ⟨⟨d0, d1, d2⟩, _, _, _⟩ := HST.out.cells HOK.out
        have hfin : (((wr.setCell ⟨w.heap.size + 1, 0, none⟩ (.slice A l.length c)).setCell ⟨w.heap.size + 1, 1, none⟩ (.int .i64 (q : Int))).setCell ⟨w.heap.size + 1, 2, none⟩ (.bool true)).heap[w.heap.size + 1]? = some (.cells #[.slice A l.length c, .int .i64 (q : Int), .bool true] 83 (0, 0)) := set_blk (set_blk (set_blk HST.out.b1 0 _) 1 _) 2 _
        have hfin2 : (((wr.setCell ⟨w.heap.size + 1, 0, none⟩ (.slice A l.length c)).setCell ⟨w.heap.size + 1, 1, none⟩ (.int .i64 (q : Int))).setCell ⟨w.heap.size + 1, 2, none⟩ (.bool true)).heap[w.heap.size + 1 + 1]? = some (.cells Z 28 (0, 0)) := by
          have hg := HST.out.b2
          unfold BoxC at hg
          rw [HZ.out] at hg
          exact blk_other (blk_other (blk_other hg _ (by omega)) _ (by omega)) _ (by omega)
        have hfb : Below w.heap.size w (((wr.setCell ⟨w.heap.size + 1, 0, none⟩ (.slice A l.length c)).setCell ⟨w.heap.size + 1, 1, none⟩ (.int .i64 (q : Int))).setCell ⟨w.heap.size + 1, 2, none⟩ (.bool true)) := ((HST.out.bel.setCell (Nat.le_succ _) _).setCell (Nat.le_succ _) _).setCell (Nat.le_succ _) _
        have hs : storeCt (.pointer (some ⟨w.heap.size + 1 + 1, 0, none⟩)) (.agg Z) (((wr.setCell ⟨w.heap.size + 1, 0, none⟩ (.slice A l.length c)).setCell ⟨w.heap.size + 1, 1, none⟩ (.int .i64 (q : Int))).setCell ⟨w.heap.size + 1, 2, none⟩ (.bool true)) = .ok .skip (((wr.setCell ⟨w.heap.size + 1, 0, none⟩ (.slice A l.length c)).setCell ⟨w.heap.size + 1, 1, none⟩ (.int .i64 (q : Int))).setCell ⟨w.heap.size + 1, 2, none⟩ (.bool true)) := by
          rw [storeCt_eq hfin2 HSZ.out HSZ.out HZ1.out, setCt_self hfin2]
        have HF1 := hid hfin
        have HF2 := hid hfin2
        have HFB := hid hfb
        clear hfin hfin2 hfb
        go_wp2_with fail
        refine bodyPost_ret (results_rc rfl _ _ _ _ _ _ _ _ _ rfl rfl rfl HF1.out HF2.out rfl HSZ.out) rfl ?_
        rw [← HZ.out]
        exact crPost_no HRW.out HI.out HFB.out
      | true =>
        have hld : loadCt (.pointer (some ⟨w.heap.size + 1 + 1 + 1, 0, none⟩)) wr = .ok (.value (.agg CA)) wr := by
          have h : wr.heap[w.heap.size + 1 + 1 + 1]? = some (.cells (ctc ⟨a, L⟩ (.slice SA SN SC)) 28 (0, 0)) := HST.out.b3
          rw [HCA.out] at h
          exact loadCt_row h HCS.out.1
        have HMA : Hid (Calls Tryz.prog 24 #[.agg CA] wr fun e w' => e = .returned (.bool m) ∧ Below wr.heap.size wr w') := hid (by
          have := refMay9_any (.agg CA) ⟨a, L⟩ wr ⟨_, by rw [HCA.out], ⟨HOK.out, HLO.out⟩, HOW.out.els eltSg HLO.out⟩
          rw [HM.out] at this
          exact this)
        obtain ⟨⟨d0, d1, d2⟩, _, _, _⟩ := HST.out.cells HOK.out
        go_wp2_with fail
        refine HMA.out.mono ?_
        rintro e w9 ⟨rfl, hb9⟩
        have HS9 := hid (HST.out.below hb9)
        have HO9 := hid (HOW.out.below hb9)
        clear hld d0 d1 d2 hb9
        cases m with
        | false =>
          have HI : Hid (ctIs l p r = false) := hid (by rw [HIS.out]; rfl)
          have hbz := HBZ.out
          have i0 := cell_blk HS9.out.b1 0
          have i1 := cell_blk HS9.out.b1 1
          have i2 := cell_blk HS9.out.b1 2
          have j1 := free_blk HS9.out.b1
          simp at i0 i1 i2
          obtain ⟨⟨d0, d1, d2⟩, _, _, _⟩ := HS9.out.cells HOK.out
          have hfin : (((w9.setCell ⟨w.heap.size + 1, 0, none⟩ (.slice A l.length c)).setCell ⟨w.heap.size + 1, 1, none⟩ (.int .i64 (q : Int))).setCell ⟨w.heap.size + 1, 2, none⟩ (.bool false)).heap[w.heap.size + 1]? = some (.cells #[.slice A l.length c, .int .i64 (q : Int), .bool false] 83 (0, 0)) := set_blk (set_blk (set_blk HS9.out.b1 0 _) 1 _) 2 _
          have hfin2 : (((w9.setCell ⟨w.heap.size + 1, 0, none⟩ (.slice A l.length c)).setCell ⟨w.heap.size + 1, 1, none⟩ (.int .i64 (q : Int))).setCell ⟨w.heap.size + 1, 2, none⟩ (.bool false)).heap[w.heap.size + 1 + 1]? = some (.cells Z 28 (0, 0)) := by
            have hg := HS9.out.b2
            unfold BoxC at hg
            rw [HZ.out] at hg
            exact blk_other (blk_other (blk_other hg _ (by omega)) _ (by omega)) _ (by omega)
          have hfb : Below w.heap.size w (((w9.setCell ⟨w.heap.size + 1, 0, none⟩ (.slice A l.length c)).setCell ⟨w.heap.size + 1, 1, none⟩ (.int .i64 (q : Int))).setCell ⟨w.heap.size + 1, 2, none⟩ (.bool false)) := ((HS9.out.bel.setCell (Nat.le_succ _) _).setCell (Nat.le_succ _) _).setCell (Nat.le_succ _) _
          have hs : storeCt (.pointer (some ⟨w.heap.size + 1 + 1, 0, none⟩)) (.agg Z) (((w9.setCell ⟨w.heap.size + 1, 0, none⟩ (.slice A l.length c)).setCell ⟨w.heap.size + 1, 1, none⟩ (.int .i64 (q : Int))).setCell ⟨w.heap.size + 1, 2, none⟩ (.bool false)) = .ok .skip (((w9.setCell ⟨w.heap.size + 1, 0, none⟩ (.slice A l.length c)).setCell ⟨w.heap.size + 1, 1, none⟩ (.int .i64 (q : Int))).setCell ⟨w.heap.size + 1, 2, none⟩ (.bool false)) := by
            rw [storeCt_eq hfin2 HSZ.out HSZ.out HZ1.out, setCt_self hfin2]
          have HF1 := hid hfin
          have HF2 := hid hfin2
          have HFB := hid hfb
          clear hfin hfin2 hfb
          go_wp2_with fail
          refine bodyPost_ret (results_rc rfl _ _ _ _ _ _ _ _ _ rfl rfl rfl HF1.out HF2.out rfl HSZ.out) rfl ?_
          rw [← HZ.out]
          exact crPost_no HRW.out HI.out HFB.out
        | true =>
          have HI : Hid (ctIs l p r = true) := hid (by rw [HIS.out]; rfl)
          go_upto_region 19 with (fail)
          have HXR : Hid (∀ W : World, W.heap[w.heap.size]? = some (.cells #[.slice A l.length c, .int .i64 (q : Int), .bool false] 83 (0, 0)) → W.heap[w.heap.size + 1 + 1 + 1]? = some (.cells (ctc ⟨a, L⟩ (.slice SA SN SC)) 28 (0, 0)) →
            W.cell? ⟨w.heap.size, 0, none⟩ = some (.slice A l.length c) ∧ W.cell? ⟨w.heap.size, 1, none⟩ = some (.int .i64 (q : Int)) ∧ W.cell? ⟨w.heap.size, 2, none⟩ = some (.bool false) ∧ loadCt (.pointer (some ⟨w.heap.size + 1 + 1 + 1, 0, none⟩)) W = .ok (.value (.agg CA)) W) := hid (fun W h0 h3 => by
            rw [HCA.out] at h3
            exact ⟨cell_blk h0 0, cell_blk h0 1, cell_blk h0 2, loadCt_row h3 HCS.out.1⟩)
          have HB0 : Hid (w9.heap[w.heap.size]? = some (.cells #[.slice A l.length c, .int .i64 (q : Int), .bool false] 83 (0, 0))) := hid HS9.out.b0
          have HB3 : Hid (w9.heap[w.heap.size + 1 + 1 + 1]? = some (.cells (ctc ⟨a, L⟩ (.slice SA SN SC)) 28 (0, 0))) := hid HS9.out.b3
          have HB1 := hid HS9.out.b1
          have HB2 : Hid (w9.heap[w.heap.size + 1 + 1]? = some (.cells Z 28 (0, 0))) := hid (by have := HS9.out.b2; unfold BoxC at this; rw [HZ.out] at this; exact this)
          have HBL := hid HS9.out.bel
          have hlt := HS9.out.lt
          have hR3 : (#[.slice A l.length c, .int .i64 (q : Int), .bool false] : Array Value).all (·.oneCell') = true := all_oneCell_toArray (by intro u hu; simp only [List.mem_cons, List.not_mem_nil, or_false] at hu; obtain rfl | rfl | rfl := hu <;> rfl)
          refine wp_region_held_drew (S := fun W => W.cell? ⟨w.heap.size, 0, none⟩ = some (.slice A l.length c) ∧ W.cell? ⟨w.heap.size, 1, none⟩ = some (.int .i64 (q : Int)) ∧ W.cell? ⟨w.heap.size, 2, none⟩ = some (.bool false) ∧ loadCt (.pointer (some ⟨w.heap.size + 1 + 1 + 1, 0, none⟩)) W = .ok (.value (.agg CA)) W) (by kernel_rfl) (HXR.out w9.drew HB0.out HB3.out) (fun hHeld => ?_)
          refine' tk (i := 0) (v := _) rfl ?_ ?_
          rotate_left
          · (intro W hW; (try dsimp only at hW); obtain ⟨hW1, hW2, hW3, _⟩ := hW; go_simp; first | done | with_reducible rfl)
          try simp only [lay]
          refine' tk (i := 1) (v := _) rfl (fun W hW => hW.2.2.2) ?_
          try simp only [lay]
          refine call_on (i := 2) rfl (by kernel_rfl) (by rfl) (fun K hK => ?_)
          refine wp_store_whole (w := w9.drew) (C := #[.slice A l.length c, .int .i64 (q : Int), .bool false]) _ _ rfl rfl rfl HB1.out size_ref rfl hR3 ?_
          intro wa hga hra hsa
          have h0 := (hga.block _ (by show _ < w9.heap.size; omega) (fun e => by injection e with e; omega)).trans HB0.out
          have h2 := (hga.block _ (by show _ < w9.heap.size; omega) (fun e => by injection e with e; omega)).trans HB2.out
          have h3 := (hga.block _ (by show _ < w9.heap.size; omega) (fun e => by injection e with e; omega)).trans HB3.out
          refine hK.out _ _ (HXR.out wa h0 h3) (fun hHeld => ?_)
          clear hK K
          refine call_on (i := 3) rfl (by kernel_rfl) (by rfl) (fun K hK => ?_)
          refine wp_store_whole (w := wa) (C := CA) _ _ rfl rfl rfl h2 (by rw [size_ct, HCS.out.1]) (by rw [HSZ.out, HCS.out.1]) HCS.out.2 ?_
          intro wb hgb hrb hsb
          have i0 := (hgb.block _ (lt_of_block h0) (fun e => by injection e with e; omega)).trans h0
          have i3 := (hgb.block _ (lt_of_block h3) (fun e => by injection e with e; omega)).trans h3
          have hra2 := (hgb.block _ (lt_of_block hra) (fun e => by injection e with e; omega)).trans hra
          have hlt0 := lt_of_block h0
          have hlti := lt_of_block i0
          have hBB : Below w.heap.size w wb := below_into (below_into (HBL.out.drew) (Nat.le_succ _) hga (by show _ ≤ w9.heap.size; omega)) (by omega) hgb (by omega)
          have HOB : Hid (OwnE scl 33 111 (w.heap.size + 1 + 1 + 1 + 1) wb (.slice SA SN SC) L) := hid (OwnE.far (OwnE.far (w := w9.drew) HO9.out hga (by omega)) hgb (by omega))
          refine hK.out _ _ (HXR.out wb i0 i3) (fun hHeld => ?_)
          clear hK K
          refine' tk (i := 4) (v := _) rfl ?_ ?_
          rotate_left
          · (intro W hW; (try dsimp only at hW); go_simp; first | done | with_reducible rfl)
          try simp only [lay]
          refine wpAnyH_done (by kernel_rfl) ?_ _
          go_wp2_with fail
          refine bodyPost_ret (results_rc rfl _ _ _ _ _ _ _ _ _ rfl rfl rfl hra2 hrb rfl HCS.out.1) rfl ?_
          rw [← HCA.out]
          exact crPost_yes HRW.out HI.out ⟨HOK.out, HLO.out⟩ (HOB.out.more (by omega)) hBB
end Go.Proofs.YtjemfmbmlmogcaaGreat
namespace Go.Proofs.YtjemfmbmlmogcaaGreat
set_option maxRecDepth 20000
open Go.RowKit
attribute [local go_sem ↓] exec_load_att
theorem bytesG_len {s : SgM} (ho : s.Ok) (h1 : 1 ≤ s.bo) (h2 : s.bo ≤ 21) : (bytesG s).length = 33 := by
  unfold bytesG
  rw [dg_small (by omega), List.length_append, ho]
  rfl
theorem flatG_len (l : List SgM) (h : ∀ s ∈ l, s.Ok ∧ 1 ≤ s.bo ∧ s.bo ≤ 21) : (l.map bytesG).flatten.length = l.length * 33 := by
  induction l with
  | nil => rfl
  | cons s l ih =>
    have h1 := h s (by simp)
    rw [List.map_cons, List.flatten_cons, List.length_append, ih (fun x hx => h x (List.mem_cons_of_mem _ hx)), bytesG_len h1.1 h1.2.1 h1.2.2, List.length_cons]
    omega
theorem flatG_snoc (l : List SgM) (i : Nat) (h : i < l.length) : ((l.take (i + 1)).map bytesG).flatten = ((l.take i).map bytesG).flatten ++ bytesG l[i] := by
  rw [List.take_succ_eq_append_getElem h]
  simp only [List.map_append, List.map_cons, List.map_nil, List.flatten_append, List.flatten_cons, List.flatten_nil, List.append_nil]
theorem mayC_all {c : CtM} (hm : mayC c = true) : bareC c = true ∧ (1 ≤ c.att.ki ∧ c.att.ki ≤ 3 ∧ c.att.ph = c.att.ki ∧ 1 ≤ c.att.vi ∧ c.att.vi ≤ 1099511627776 ∧ 0 ≤ c.att.pv ∧ c.att.pv ≤ c.att.vi) ∧ 0 < c.sg.length ∧ c.sg.length ≤ 21 ∧ ∀ s ∈ c.sg, 1 ≤ s.bo ∧ s.bo ≤ 21 := by
  unfold mayC at hm
  simp only [Bool.and_eq_true, decide_eq_true_eq] at hm
  obtain ⟨hb, ha, hl, hr⟩ := hm
  obtain ⟨_, _, h3, h4, h5, h6, h7, h8, h9⟩ := mayA_iff ha
  exact ⟨hb, ⟨h3, h4, h5, h6, h7, h8, h9⟩, hl, risesB_len (top := 21) hr, fun s hs => by have := risesB_mem hr s hs; omega⟩
theorem bytesC_len {c : CtM} (ho : c.Ok) (hm : mayC c = true) : (bytesC c).length ≤ 1000 := by
  obtain ⟨_, ⟨h3, h4, h5, h6, h7, h8, h9⟩, _, hl, hs⟩ := mayC_all hm
  have e1 := dg_len10 (n := c.att.ki.toNat) (by omega)
  have e2 := dg_len10 (n := c.att.vi.toNat) (by omega)
  have e3 := dg_len10 (n := c.att.ph.toNat) (by omega)
  have e4 := dg_len10 (n := c.att.pv.toNat) (by omega)
  have e5 := dg_len10 (n := c.sg.length) (by omega)
  have e6 := flatG_len c.sg (fun s h => ⟨ho.sg s h, hs s h⟩)
  have := ho.att.ha
  have := ho.att.pa
  unfold bytesC taggedA
  simp only [List.length_append]
  omega
set_option maxHeartbeats 1600000 in
theorem refBytes9_any (v : Value) (c : CtM) (w : World) (hv : CtV w v c) (hm : mayC c = true) :
    Calls Tryz.prog 39 #[v] w fun e w' => ∃ x, e = .returned x ∧ Own w.heap.size w' x (bytesC c) ∧ Below w.heap.size w w' := by
  obtain ⟨s, rfl, ho, ht⟩ := hv
  obtain ⟨_, hat, hl0', hl21, hsg⟩ := mayC_all hm
  have HAL : Hid (∀ s ∈ c.sg, s.Ok ∧ (1 : Int) ≤ s.bo ∧ s.bo ≤ 21) := hid (fun s hs => ⟨ho.sg s hs, hsg s hs⟩)
  have hb0 : Below w.heap.size w (w.alloc (.cells (ctc c s) 28)) := (Below.refl _ _).alloc (Nat.le_refl _) _
  have hr0 := heap_alloc_new w (.cells (ctc c s) 28)
  have ht0 := ht.below hb0
  obtain ⟨A, k, rfl⟩ := ht.shape
  obtain ⟨L, HL⟩ : ∃ n : Nat, Hid (c.sg.length = n) := ⟨_, hid rfl⟩
  rw [HL.out] at hr0 hb0 ht0 hl21 ⊢
  obtain ⟨C, HC⟩ : ∃ C : Array Value, Hid (ctc c (.slice A L k) = C) := ⟨_, hid rfl⟩
  obtain ⟨O, HO⟩ : ∃ O : List UInt8, Hid (bytesC c = O) := ⟨_, hid rfl⟩
  obtain ⟨T, HT⟩ : ∃ O : List UInt8, Hid (taggedA c.att = O) := ⟨_, hid rfl⟩
  have HTL : Hid (T.length ≤ 110) := hid (by
    obtain ⟨h3, h4, h5, h6, h7, h8, h9⟩ := hat
    have e1 := dg_len10 (n := c.att.ki.toNat) (by omega)
    have e2 := dg_len10 (n := c.att.vi.toNat) (by omega)
    have e3 := dg_len10 (n := c.att.ph.toNat) (by omega)
    have e4 := dg_len10 (n := c.att.pv.toNat) (by omega)
    have := ho.att.ha
    have := ho.att.pa
    rw [← HT.out]
    unfold taggedA
    simp only [List.length_append]
    omega)
  rw [HC.out] at hr0 hb0 ht0 ⊢
  rw [HO.out]
  have HAO := hid ho.att
  have HTG := hid (fun W => refTagged_of c.att W ho.att hat)
  rw [HT.out] at HTG
  obtain ⟨G, HG⟩ : ∃ C : Array Value, Hid (atc c.att = C) := ⟨_, hid rfl⟩
  rw [HG.out] at HTG
  have HLD : Hid (∀ W : World, W.heap[w.heap.size]? = some (.cells C 28 (0, 0)) → loadAtt (.pointer (some ⟨w.heap.size, 0, none⟩)) W = .ok (.value (.agg G)) W ∧ W.cell? ⟨w.heap.size, 101, none⟩ = some (.slice A L k)) := hid (fun W h => by
    rw [← HC.out] at h
    have hBC : BoxC W w.heap.size c (.slice A L k) := h
    rw [← HG.out]
    exact ⟨loadAtt_in hBC.att HAO.out, hBC.sigs HAO.out⟩)
  have hLw : IntKind.u8.wrap (L : Int) = (L : Int) := by rw [IntKind.wrap_u8']; omega
  have HYL := hid (fun w => one_own w L (by omega))
  have HDL : Hid (dg L = [UInt8.ofNat L]) := hid (dg_small (by omega))
  have HL21 := hid hl21
  clear ho ht hm hat hl0' hl21 hsg
  go_enter Tryz.func39, Tryz.ntmps39
  go_upto_region 1 with (fail)
  generalize (w.alloc (.cells C 28)) = w0 at *
  have hlr := lt_of_block hr0
  have HX := hid (fun W (h : Below w0.heap.size w0 W) => HLD.out W ((h.block _ hlr).trans hr0))
  have HTX := hid (fun W (h : Below w0.heap.size w0 W) => ht0.below h)
  have hbd : Below w0.heap.size w0 w0.drew := (Below.refl _ _).drew
  have hs0 := hb0.size
  have HA1 : Hid (Below w0.heap.size w0 (w0.alloc (.cells #[.int .u8 (L : Int)] 5)).drew) := hid (((Below.refl _ _).alloc (Nat.le_refl _) _).drew)
  have HA2 : Hid (Byt (w0.alloc (.cells #[.int .u8 (L : Int)] 5)).drew (.slice (some ⟨w0.heap.size, 0, none⟩) 1 1) [UInt8.ofNat L]) := hid (HYL.out w0).byt
  clear hr0 hlr ht0
  go_region_held3 (fun W => loadAtt (.pointer (some ⟨w.heap.size, 0, none⟩)) W = .ok (.value (.agg G)) W ∧ W.cell? ⟨w.heap.size, 101, none⟩ = some (.slice A L k))
    (first
      | (refine HX.out _ hbd)
      | (refine HX.out _ hb5)
      | (refine HX.out _ hb4)
      | (refine HX.out _ HA1.out)
      | (refine HX.out _ (hb4.alloc hb4.size _))
      | fail)
    (first
      | (refine step_append_byt (by rfl) (.tmp 7) (.tmp 12) (by rfl) (by rfl) (by rfl) (ho4.more HA1.out.size) (HA2.out.below hb4') (by have := HTL.out; simp only [List.length_cons, List.length_nil]; omega) hb4.size ?_; intro v5 w5 ho5 hg5 _; have hb5 := hb4.grown hg5 hb4.size (fun q hq => Nat.le_trans HA1.out.size (World.ownsRow.lt ho4 q hq).1); clear hg5)
      | (refine step_append_byt (by rfl) (.tmp 7) (.tmp 12) (by rfl) (by rfl) (by rfl) (ho4.alloc _) (HYL.out w4).byt (by have := HTL.out; simp only [List.length_cons, List.length_nil]; omega) (Nat.le_trans hb4.size (al_le _ _)) ?_; intro v5 w5 ho5 hg5 _; have hb5 := (hb4.alloc hb4.size _).grown hg5 (Nat.le_trans hb4.size (al_le _ _)) (fun q hq => (World.ownsRow.lt ho4 q hq).1); clear hg5)
      | (go_at_call 83; (with_reducible refine (HTG.out (w0.alloc (.cells #[.int .u8 (L : Int)] 5)).drew).mono ?_); rintro e w4 ⟨v4, rfl, ho4, hb4'⟩; have hb4 := HA1.out.trans (hb4'.mono HA1.out.size))
      | (go_at_call 83; (with_reducible refine (HTG.out w0.drew).mono ?_); rintro e w4 ⟨v4, rfl, ho4, hb4'⟩; have hb4 := hbd.trans hb4')
      | fail)
  all_goals
    have ho5' : Own w0.heap.size w5 v5 (T ++ [UInt8.ofNat L]) := ho5
    clear ho4 ho5 hb4 hb4'
    obtain ⟨P, HP⟩ : ∃ P : List UInt8, Hid (T ++ [UInt8.ofNat L] = P) := ⟨_, hid rfl⟩
    have HPL : Hid (P.length ≤ 111) := hid (by rw [← HP.out, List.length_append]; have := HTL.out; simp only [List.length_cons, List.length_nil]; omega)
    rw [HP.out] at ho5'
    have HLI : Hid (L ≤ 9223372036854775807) := hid (by have := HL21.out; omega)
    clear hbd hLw
    go_wp2_with fail
    go_loopw [3, 4] (fun out si wr => ∃ i : Nat, i ≤ L ∧ si = .int .i64 i ∧ Own w0.heap.size wr out (P ++ ((c.sg.take i).map bytesG).flatten) ∧ Below w0.heap.size w0 wr) (fun _ si _ => L - (intOf si).toNat)
    case atStart => exact ⟨0, Nat.zero_le _, rfl, by rw [List.take_zero, List.map_nil, List.flatten_nil, List.append_nil]; exact ho5', hb5⟩
    case round =>
      obtain ⟨i, hi, rfl, hown, hB⟩ := hrel
      clear ho5' hb5
      by_cases hlt : i < L
      · have hil : i < c.sg.length := by rw [HL.out]; exact hlt
        obtain ⟨g, o, rfl, hg, _⟩ := (HTX.out wr hB).at_.2.2.2 (by omega)
        have hsi := HAL.out _ (List.getElem_mem hil)
        have HNEW := hid (flatG_snoc c.sg i hil)
        have HFL : Hid (((c.sg.take i).map bytesG).flatten.length ≤ 693) := hid (by
          have := flatG_len (c.sg.take i) (fun s hs => HAL.out s (List.mem_of_mem_take hs))
          rw [List.length_take] at this
          have := HL21.out
          omega)
        obtain ⟨⟨b, tg⟩, HSI⟩ : ∃ s, Hid (c.sg[i] = s) := ⟨_, hid rfl⟩
        rw [HSI.out] at hsi HNEW
        obtain ⟨hs1, hs2, hs3⟩ := hsi
        simp only at hs2 hs3
        have HG32 : Hid (tg.length = 32) := hid hs1
        obtain ⟨n, rfl⟩ := nat_of (i := b) (by omega)
        have HBG : Hid (bytesG ⟨(n : Int), tg⟩ = [UInt8.ofNat n] ++ tg) := hid (by
          unfold bytesG
          rw [Int.toNat_natCast, dg_small (by omega)])
        have hbw : IntKind.u8.wrap (n : Int) = (n : Int) := by rw [IntKind.wrap_u8']; omega
        have HYP := hid (fun w => one_own w n (by omega))
        have HBH := hid (fun w => refBytes7_arr tg w HG32.out)
        have HS : Hid (∀ W, Below w0.heap.size w0 W → (W.cell? ⟨w.heap.size, 101, none⟩ = some (.slice (some ⟨g, o, none⟩) L k) ∧ W.cell? ⟨g, o + i * 33, none⟩ = some (.int .i64 (n : Int)) ∧ W.rangeAt g (o + i * 33 + 1) (bcells tg))) := hid (fun W h => by
          obtain ⟨g', o', e, _, hcl⟩ := (HTX.out W h).at_.2.2.2 (by omega)
          injection e with e
          injection e with e1 e2 _
          subst e1 e2
          have := sg_range (hcl i hil)
          rw [HSI.out] at this
          exact ⟨(HX.out W h).2, this.1, this.2⟩)
        obtain ⟨Q, HQ⟩ : ∃ Q : List UInt8, Hid (P ++ ((c.sg.take i).map bytesG).flatten = Q) := ⟨_, hid rfl⟩
        have HQL : Hid (Q.length ≤ 1000) := hid (by rw [← HQ.out, List.length_append]; have := HPL.out; have := HFL.out; omega)
        rw [HQ.out] at hown
        have hI : (i : Int) < (L : Int) := by omega
        have hbr : Below w0.heap.size w0 wr.drew := hB.drew
        have hzr := hB.size
        have hbB : Below wr.heap.size wr (wr.alloc (.cells #[.int .u8 (n : Int)] 5)).drew := ((Below.refl _ _).alloc (Nat.le_refl _) _).drew
        have hyB : Byt (wr.alloc (.cells #[.int .u8 (n : Int)] 5)).drew (.slice (some ⟨wr.heap.size, 0, none⟩) 1 1) [UInt8.ofNat n] := (HYP.out wr).byt
        have HB1 := hid hbB
        have HB2 := hid hyB
        have HB3 := hid (hB.trans (hbB.mono hB.size))
        have hdr : Below wr.heap.size wr wr.drew := (Below.refl _ _).drew
        have hu := under_hash
        have hsz : (Tryz.prog.info? 23).map (·.size) = some (bcells tg).length := by rw [size_hash, bcells_length, HG32.out]
        have c0 := (HX.out wr hB).2
        clear hbB hyB hs1 hs2 hs3 hg
        go_upto_region 5 with (fail)
        clear c0
        go_region_held3 (fun W => W.cell? ⟨w.heap.size, 101, none⟩ = some (.slice (some ⟨g, o, none⟩) L k) ∧ W.cell? ⟨g, o + i * 33, none⟩ = some (.int .i64 (n : Int)) ∧ W.rangeAt g (o + i * 33 + 1) (bcells tg))
          (first
            | (refine HS.out _ hbr)
            | (refine HS.out _ hb8)
            | (refine HS.out _ hb7)
            | (refine HS.out _ hb6)
            | (refine HS.out _ HB3.out)
            | (refine HS.out _ (hb7.alloc hb7.size _))
            | fail)
          (first
            | (refine step_append_byt (by rfl) (.tmp 30) (.tmp 37) (by rfl) (by rfl) (by rfl) (ho6.below hb7') ho7.byt (by rw [List.length_append]; have := HQL.out; have := HG32.out; simp only [List.length_cons, List.length_nil] at *; omega) hb7.size ?_; intro v8 w8 ho8 hg8 _; have hb8 := hb7.grown hg8 hb7.size (fun q hq => (World.ownsRow.lt (ho6.below hb7') q hq).1); clear hg8)
            | (refine step_append_byt (by rfl) (.tmp 30) (.tmp 37) (by rfl) (by rfl) (by rfl) ho6 hy7 (by rw [List.length_append]; have := HQL.out; have := HG32.out; simp only [List.length_cons, List.length_nil] at *; omega) hb6.size ?_; intro v8 w8 ho8 hg8 _; have hb8 := hb6.grown hg8 hb6.size (fun q hq => (World.ownsRow.lt ho6 q hq).1); clear hg8)
            | (refine step_append_byt (by rfl) (.tmp 21) (.tmp 29) (by rfl) (by rfl) (by rfl) (hown.below HB1.out) HB2.out (by have := HQL.out; simp only [List.length_cons, List.length_nil]; omega) HB3.out.size ?_; intro v6 w6 ho6 hg6 _; have hb6 := HB3.out.grown hg6 HB3.out.size (fun q hq => (World.ownsRow.lt (hown.below HB1.out) q hq).1); clear hg6)
            | (refine step_append_byt (by rfl) (.tmp 21) (.tmp 29) (by rfl) (by rfl) (by rfl) ((hown.below HB1.out).below hb7') (HB2.out.below hb7') (by have := HQL.out; simp only [List.length_cons, List.length_nil]; omega) hb7.size ?_; intro v6 w6 ho6 hg6 _; have hb6 := hb7.grown hg6 hb7.size (fun q hq => (World.ownsRow.lt ((hown.below HB1.out).below hb7') q hq).1); have hy7 := own_past hown HB1.out.size ho7 hg6; clear hg6)
            | (refine step_append_byt (by rfl) (.tmp 21) (.tmp 29) (by rfl) (by rfl) (by rfl) (((hown.below hdr).below hb7').alloc _) (HYP.out w7).byt (by have := HQL.out; simp only [List.length_cons, List.length_nil]; omega) (Nat.le_trans hb7.size (al_le _ _)) ?_; intro v6 w6 ho6 hg6 _; have hb6 := (hb7.alloc hb7.size _).grown hg6 (Nat.le_trans hb7.size (al_le _ _)) (fun q hq => (World.ownsRow.lt (((hown.below hdr).below hb7').alloc _) q hq).1); have hy7 := own_past hown hdr.size (ho7.alloc _) hg6; clear hg6)
            | (go_at_call 40; (with_reducible refine (HBH.out w6).mono ?_); rintro e w7 ⟨v7, rfl, ho7, hb7'⟩; have hb7 := hb6.trans (hb7'.mono hb6.size))
            | (go_at_call 40; (with_reducible refine (HBH.out (wr.alloc (.cells #[.int .u8 (n : Int)] 5)).drew).mono ?_); rintro e w7 ⟨v7, rfl, ho7, hb7'⟩; have hb7 := HB3.out.trans (hb7'.mono HB3.out.size))
            | (go_at_call 40; (with_reducible refine (HBH.out wr.drew).mono ?_); rintro e w7 ⟨v7, rfl, ho7, hb7'⟩; have hb7 := hbr.trans (hb7'.mono hbr.size))
            | fail)
        all_goals
          have ho8' : Own w0.heap.size w8 v8 (P ++ ((c.sg.take (i + 1)).map bytesG).flatten) := by
            have e : Q ++ [UInt8.ofNat n] ++ tg = P ++ ((c.sg.take (i + 1)).map bytesG).flatten := by
              rw [HNEW.out, ← HQ.out, HBG.out]
              simp only [List.append_assoc]
            rw [← e]
            exact ho8
          clear hown ho6 ho7 ho8 hb6 hb7 hb7' hbr hzr hdr hu hsz HB1 HB2 HB3 hbw
          (try clear hy7)
          have HLT : Hid (i < L) := hid (by have := hil; rw [HL.out] at this; exact this)
          have HWI : Hid (wrap64 ((i : Int) + 1) = ((i + 1 : Nat) : Int)) := hid (by have h1 := HLT.out; have h2 := HL21.out; unfold wrap64; omega)
          go_wp2_with fail
          go_roundw
          case rel => exact ⟨i + 1, by have := HLT.out; omega, by rw [HWI.out], ho8', hb8⟩
          case measure =>
            have h1 := HLT.out
            have hw := HWI.out
            simp only [hw]; simp [intOf]; omega
      · have E4 := hid (show i = L by omega)
        have hI : ¬ (i : Int) < (L : Int) := by omega
        have c0 := (HX.out wr hB).2
        go_wp2_with fail
        go_ret
        refine ⟨_, rfl, ?_, hb0.trans (hB.mono hs0)⟩
        rw [E4.out, List.take_of_length_le (by rw [HL.out]; exact Nat.le_refl _)] at hown
        have e : P ++ (c.sg.map bytesG).flatten = O := by
          rw [← HO.out, ← HP.out]
          unfold bytesC
          rw [HT.out, HL.out, HDL.out, List.append_assoc]
        rw [e] at hown
        exact hown.more hs0
end Go.Proofs.YtjemfmbmlmogcaaGreat
namespace Go.Proofs.YtjemfmbmlmogcaaGreat
set_option maxRecDepth 20000
open Go.RowKit
attribute [local go_sem ↓] exec_load_att exec_load_sg
set_option maxHeartbeats 600000 in
theorem refSame9_any (va vb : Value) (a b : CtM) (w : World) (hva : CtV w va a) (hvb : CtV w vb b) :
    Calls Tryz.prog 32 #[va, vb] w fun e w' => e = .returned (.bool (decide (a = b))) ∧ Below w.heap.size w w' := by
  obtain ⟨sa, rfl, hoa, hta⟩ := hva
  obtain ⟨sb, rfl, hob, htb⟩ := hvb
  have hb0 : Below w.heap.size w ((w.alloc (.cells (ctc a sa) 28)).alloc (.cells (ctc b sb) 28)) := ((Below.refl _ _).alloc (Nat.le_refl _) _).alloc (by simp) _
  have hA : BoxC ((w.alloc (.cells (ctc a sa) 28)).alloc (.cells (ctc b sb) 28)) w.heap.size a sa := heap1 w _ _
  have hB : BoxC ((w.alloc (.cells (ctc a sa) 28)).alloc (.cells (ctc b sb) 28)) (w.heap.size + 1) b sb := heap2 w _ _
  have hta0 := hta.below hb0
  have htb0 := htb.below hb0
  obtain ⟨AA, ca, rfl⟩ := hta.shape
  obtain ⟨AB, cb, rfl⟩ := htb.shape
  obtain ⟨CA, HCA⟩ : ∃ C : Array Value, Hid (ctc a (.slice AA a.sg.length ca) = C) := ⟨_, hid rfl⟩
  obtain ⟨CB, HCB⟩ : ∃ C : Array Value, Hid (ctc b (.slice AB b.sg.length cb) = C) := ⟨_, hid rfl⟩
  rw [HCA.out, HCB.out] at hA hB hb0 hta0 htb0 ⊢
  obtain ⟨ans, HAN⟩ : ∃ q : Bool, Hid (decide (a = b) = q) := ⟨_, hid rfl⟩
  rw [HAN.out]
  go_enter Tryz.func32, Tryz.ntmps32
  go_upto_region 1 with (fail)
  generalize ((w.alloc (.cells CA 28)).alloc (.cells CB 28)) = w0 at *
  clear HCA HCB hta htb
  have a4 := hA.sigs hoa.att
  have b4 := hB.sigs hob.att
  have la := loadAtt_in hA.att hoa.att
  have lb := loadAtt_in hB.att hob.att
  have heq := fun W => eq_att a.att b.att hoa.att hob.att W
  obtain ⟨q, HQ⟩ : ∃ q : Bool, Hid (decide (a.att = b.att) = q) := ⟨_, hid rfl⟩
  rw [HQ.out] at heq
  obtain ⟨GA, HGA⟩ : ∃ C : Array Value, Hid (atc a.att = C) := ⟨_, hid rfl⟩
  obtain ⟨GB, HGB⟩ : ∃ C : Array Value, Hid (atc b.att = C) := ⟨_, hid rfl⟩
  rw [HGA.out] at la heq
  rw [HGB.out] at lb heq
  have a4d : ∀ n, (w0.drewN n).cell? ⟨w.heap.size, 101, none⟩ = some (.slice AA a.sg.length ca) := fun n => hA.sigs hoa.att
  have b4d : ∀ n, (w0.drewN n).cell? ⟨w.heap.size + 1, 101, none⟩ = some (.slice AB b.sg.length cb) := fun n => hB.sigs hob.att
  have HOA := hid hoa.sg
  have HOB := hid hob.sg
  clear hA hB hoa hob HGA HGB
  obtain ⟨LA, HLA⟩ : ∃ n : Nat, Hid (a.sg.length = n) := ⟨_, hid rfl⟩
  obtain ⟨LB, HLB⟩ : ∃ n : Nat, Hid (b.sg.length = n) := ⟨_, hid rfl⟩
  have hlena := hta0.len
  have hlenb := htb0.len
  rw [HLA.out] at a4 a4d hta0 hlena
  rw [HLB.out] at b4 b4d htb0 hlenb
  unfold maxLen at hlena hlenb
  obtain ⟨aa, sa⟩ := a
  obtain ⟨ab, sb⟩ := b
  simp only at HQ HLA HLB hta0 htb0 HOA HOB
  cases q with
  | false =>
    obtain rfl : ans = false := by
      rw [← HAN.out]
      exact decide_eq_false (fun e => by injection e with e _; exact of_decide_eq_false HQ.out e)
    clear a4d b4d
    go_wp2_with fail
    go_ret
    exact ⟨rfl, hb0⟩
  | true =>
    by_cases e4 : LA = LB
    · subst e4
      have t4 : ((LA : Int) != (LA : Int)) = false := by simp
      obtain ⟨_, hca1, hca2, hra⟩ := hta0.at_
      obtain ⟨_, hcb1, hcb2, hrb⟩ := htb0.at_
      rw [HLA.out] at hca1
      rw [HLB.out] at hcb1
      unfold maxLen at hca2 hcb2
      have HRA := hid hra
      have HRB := hid hrb
      have HA4 := hid a4d
      have HB4 := hid b4d
      clear hra hrb hta0 htb0 a4d b4d
      go_wp2_with fail
      clear t4 heq la lb a4 b4
      go_loopw [5] (fun si wr => ∃ i : Nat, i ≤ LA ∧ si = .int .i64 i ∧ Hid (∀ j (h : j < sa.length) (h2 : j < sb.length), j < i → sa[j] = sb[j]) ∧ ∃ n, wr = w0.drewN n) (fun si _ => LA - (intOf si).toNat)
      case atStart => exact ⟨0, Nat.zero_le _, rfl, hid (fun j _ _ h => absurd h (by omega)), 0, rfl⟩
      case round =>
        obtain ⟨i, hi, rfl, HBB, n, rfl⟩ := hrel
        have a4d := HA4.out
        have b4d := HB4.out
        by_cases hlt : i < LA
        · have hil : i < sa.length := by rw [HLA.out]; exact hlt
          have him : i < sb.length := by rw [HLB.out]; exact hlt
          obtain ⟨ba, oa', rfl, hba, hcla⟩ := HRA.out (by omega)
          obtain ⟨bb, ob', rfl, hbb, hclb⟩ := HRB.out (by omega)
          have l1 : ∀ k, loadSg (.pointer (some ⟨ba, oa' + i * 33, none⟩)) (w0.drewN k) = .ok (.value (.agg (sgc sa[i]))) (w0.drewN k) := fun k => loadSg_mid (hcla i hil) (HOA.out _ (List.getElem_mem hil))
          have l2 : ∀ k, loadSg (.pointer (some ⟨bb, ob' + i * 33, none⟩)) (w0.drewN k) = .ok (.value (.agg (sgc sb[i]))) (w0.drewN k) := fun k => loadSg_mid (hclb i him) (HOB.out _ (List.getElem_mem him))
          have hI : (i : Int) < (LA : Int) := by omega
          have eqt : ∀ W, (Op.equalIn 10000 111 (.agg (sgc sa[i])) (.agg (sgc sb[i]))).run Tryz.prog W = .ok (decide (sa[i] = sb[i])) W := fun W => eq_sg _ _ (HOA.out _ (List.getElem_mem hil)) (HOB.out _ (List.getElem_mem him)) W
          clear hcla hclb
          obtain ⟨X, HX⟩ : ∃ C : Array Value, Hid (sgc sa[i] = C) := ⟨_, hid rfl⟩
          obtain ⟨Y, HY⟩ : ∃ C : Array Value, Hid (sgc sb[i] = C) := ⟨_, hid rfl⟩
          rw [HX.out] at l1 eqt
          rw [HY.out] at l2 eqt
          by_cases hxy : sa[i] = sb[i]
          · rw [decide_eq_true hxy] at eqt
            go_wp2_with fail
            go_quiet (fail)
            go_wp2
            go_roundw
            case rel =>
              refine ⟨i + 1, by omega, by go_num, hid (fun j h h2 hj => ?_), _, rfl⟩
              by_cases hji : j < i
              · exact HBB.out j h h2 hji
              · obtain rfl : j = i := by omega
                exact hxy
            case measure => simp [intOf]; omega
          · rw [decide_eq_false hxy] at eqt
            go_wp2_with fail
            go_quiet (fail)
            go_wp2
            go_ret
            have e : ans = false := by
              rw [← HAN.out]
              exact decide_eq_false (fun e => by injection e with _ e; subst e; exact hxy rfl)
            subst e
            exact ⟨rfl, below_drewN (below_drewN hb0 _) _⟩
        · obtain rfl : i = LA := by omega
          go_wp2
          go_ret
          have e : ans = true := by
            rw [← HAN.out]
            refine decide_eq_true ?_
            have hp : aa = ab := of_decide_eq_true HQ.out
            have ht : sa = sb := List.ext_getElem (by rw [HLA.out, HLB.out]) fun j h h2 => HBB.out j h h2 (by have := HLA.out; omega)
            rw [hp, ht]
          subst e
          exact ⟨rfl, below_drewN hb0 n⟩
    · have t4 : ((LA : Int) != (LB : Int)) = true := by simp; omega
      obtain rfl : ans = false := by
        rw [← HAN.out]
        exact decide_eq_false (fun e => by injection e with _ e; rw [e] at HLA; exact e4 (HLA.out.symm.trans HLB.out))
      clear e4 a4d b4d hta0 htb0
      go_wp2_with fail
      go_ret
      exact ⟨rfl, hb0⟩
end Go.Proofs.YtjemfmbmlmogcaaGreat
namespace Go.Proofs.YtjemfmbmlmogcaaGreat
set_option maxRecDepth 20000
open Go.RowKit
def CtSameOk : Prop := ∀ (v u : Value) (c d : CtM) (w : World), CtV w v c → CtV w u d → c.sg.length ≤ 1000 → d.sg.length ≤ 1000 → Calls Tryz.prog 29 #[v, u] w fun e w' => e = .returned (.bool (decide (c = d))) ∧ Below w.heap.size w w'
def putC (l : List UInt8) (c : CtM) : List UInt8 := if mayC c = true then l ++ bytesC c else l
def CtPutOk : Prop := ∀ (v u : Value) (l : List UInt8) (c : CtM) (w : World), Byt w v l → l.length ≤ 1000000 → CtV w u c → c.sg.length ≤ 1000 → Calls Tryz.prog 56 #[v, u] w fun e w' => ∃ x, e = .returned x ∧ Byt w' x (putC l c) ∧ Below w.heap.size w w'
end Go.Proofs.YtjemfmbmlmogcaaGreat
namespace Go.Proofs.YtjemfmbmlmogcaaGreat
set_option maxRecDepth 20000
open Go.RowKit
attribute [local go_sem ↓] exec_load_att exec_load_sg
set_option maxHeartbeats 800000 in
theorem equalSg_any (va vb : Value) (sa sb : List SgM) (w : World) (hva : Els scl 33 w va sa) (hvb : Els scl 33 w vb sb) (hoa : ∀ s ∈ sa, s.Ok) (hob : ∀ s ∈ sb, s.Ok) (hl : sa.length ≤ 1000) :
    Calls Tryz.prog 70 #[va, vb] w fun e w' => e = .returned (.bool (decide (sa = sb))) ∧ Below w.heap.size w w' := by
  obtain ⟨AA, ca, rfl⟩ := hva.shape
  obtain ⟨AB, cb, rfl⟩ := hvb.shape
  obtain ⟨ans, HAN⟩ : ∃ q : Bool, Hid (decide (sa = sb) = q) := ⟨_, hid rfl⟩
  rw [HAN.out]
  obtain ⟨LA, HLA⟩ : ∃ n : Nat, Hid (sa.length = n) := ⟨_, hid rfl⟩
  obtain ⟨LB, HLB⟩ : ∃ n : Nat, Hid (sb.length = n) := ⟨_, hid rfl⟩
  rw [HLA.out] at hva hl ⊢
  rw [HLB.out] at hvb ⊢
  have HOA := hid hoa
  have HOB := hid hob
  have hlb := hvb.len
  rw [HLB.out] at hlb
  unfold maxLen at hlb
  clear hoa hob
  by_cases e4 : LA = LB
  · subst e4
    have t4 : ((LA : Int) != (LA : Int)) = false := by simp
    have HRA := hid hva.at_.2.2.2
    have HRB := hid hvb.at_.2.2.2
    clear hva hvb
    go_enter Tryz.func70, Tryz.ntmps70
    go_wp2_with fail
    clear t4
    go_loopw [13] (fun si wr => ∃ i : Nat, i ≤ LA ∧ si = .int .i64 i ∧ Hid (∀ j (h : j < sa.length) (h2 : j < sb.length), j < i → sa[j] = sb[j]) ∧ ∃ n, wr = w.drewN n) (fun si _ => LA - (intOf si).toNat)
    case atStart => exact ⟨0, Nat.zero_le _, rfl, hid (fun j _ _ h => absurd h (by omega)), 0, rfl⟩
    case round =>
      obtain ⟨i, hi, rfl, HBB, n, rfl⟩ := hrel
      by_cases hlt : i < LA
      · have hil : i < sa.length := by rw [HLA.out]; exact hlt
        have him : i < sb.length := by rw [HLB.out]; exact hlt
        obtain ⟨ba, oa', rfl, hba, hcla⟩ := HRA.out (by omega)
        obtain ⟨bb, ob', rfl, hbb, hclb⟩ := HRB.out (by omega)
        have l1 : ∀ k, loadSg (.pointer (some ⟨ba, oa' + i * 33, none⟩)) (w.drewN k) = .ok (.value (.agg (sgc sa[i]))) (w.drewN k) := fun k => loadSg_mid (hcla i hil) (HOA.out _ (List.getElem_mem hil))
        have l2 : ∀ k, loadSg (.pointer (some ⟨bb, ob' + i * 33, none⟩)) (w.drewN k) = .ok (.value (.agg (sgc sb[i]))) (w.drewN k) := fun k => loadSg_mid (hclb i him) (HOB.out _ (List.getElem_mem him))
        have hI : (i : Int) < (LA : Int) := by omega
        have eqt : ∀ W, (Op.equalIn 10000 111 (.agg (sgc sa[i])) (.agg (sgc sb[i]))).run Tryz.prog W = .ok (decide (sa[i] = sb[i])) W := fun W => eq_sg _ _ (HOA.out _ (List.getElem_mem hil)) (HOB.out _ (List.getElem_mem him)) W
        clear hcla hclb
        obtain ⟨X, HX⟩ : ∃ C : Array Value, Hid (sgc sa[i] = C) := ⟨_, hid rfl⟩
        obtain ⟨Y, HY⟩ : ∃ C : Array Value, Hid (sgc sb[i] = C) := ⟨_, hid rfl⟩
        rw [HX.out] at l1 eqt
        rw [HY.out] at l2 eqt
        by_cases hxy : sa[i] = sb[i]
        · rw [decide_eq_true hxy] at eqt
          have HXY := hid hxy
          clear hxy
          go_wp2_with fail
          go_quiet (fail)
          go_wp2
          go_roundw
          case rel =>
            refine ⟨i + 1, by omega, by go_num, hid (fun j h h2 hj => ?_), _, rfl⟩
            by_cases hji : j < i
            · exact HBB.out j h h2 hji
            · obtain rfl : j = i := by omega
              exact HXY.out
          case measure => simp [intOf]; omega
        · rw [decide_eq_false hxy] at eqt
          have HXY := hid hxy
          clear hxy
          go_wp2_with fail
          go_quiet (fail)
          go_wp2
          go_ret
          have e : ans = false := by
            rw [← HAN.out]
            exact decide_eq_false (fun e => by subst e; exact HXY.out rfl)
          subst e
          exact ⟨rfl, below_drewN (below_drewN (Below.refl _ _) _) _⟩
      · obtain rfl : i = LA := by omega
        go_wp2
        go_ret
        have e : ans = true := by
          rw [← HAN.out]
          refine decide_eq_true ?_
          exact List.ext_getElem (by rw [HLA.out, HLB.out]) fun j h h2 => HBB.out j h h2 (by have := HLA.out; omega)
        subst e
        exact ⟨rfl, below_drewN (Below.refl _ _) n⟩
  · have t4 : ((LA : Int) != (LB : Int)) = true := by simp; omega
    obtain rfl : ans = false := by
      rw [← HAN.out]
      exact decide_eq_false (fun e => by rw [e] at HLA; exact e4 (HLA.out.symm.trans HLB.out))
    clear e4 hva hvb
    go_enter Tryz.func70, Tryz.ntmps70
    go_wp2_with fail
    go_ret
    exact ⟨rfl, Below.refl _ _⟩
set_option maxHeartbeats 800000 in
theorem ctSame_ok : CtSameOk := by
  intro va vb a b w hva hvb hla hlb
  obtain ⟨sa, rfl, hoa, hta⟩ := hva
  obtain ⟨sb, rfl, hob, htb⟩ := hvb
  have hb0 : Below w.heap.size w ((w.alloc (.cells (ctc a sa) 28)).alloc (.cells (ctc b sb) 28)) := ((Below.refl _ _).alloc (Nat.le_refl _) _).alloc (by simp) _
  have hA : BoxC ((w.alloc (.cells (ctc a sa) 28)).alloc (.cells (ctc b sb) 28)) w.heap.size a sa := heap1 w _ _
  have hB : BoxC ((w.alloc (.cells (ctc a sa) 28)).alloc (.cells (ctc b sb) 28)) (w.heap.size + 1) b sb := heap2 w _ _
  have hta0 := hta.below hb0
  have htb0 := htb.below hb0
  obtain ⟨AA, ca, rfl⟩ := hta.shape
  obtain ⟨AB, cb, rfl⟩ := htb.shape
  obtain ⟨CA, HCA⟩ : ∃ C : Array Value, Hid (ctc a (.slice AA a.sg.length ca) = C) := ⟨_, hid rfl⟩
  obtain ⟨CB, HCB⟩ : ∃ C : Array Value, Hid (ctc b (.slice AB b.sg.length cb) = C) := ⟨_, hid rfl⟩
  rw [HCA.out, HCB.out] at hA hB hb0 hta0 htb0 ⊢
  obtain ⟨ans, HAN⟩ : ∃ q : Bool, Hid (decide (a = b) = q) := ⟨_, hid rfl⟩
  rw [HAN.out]
  go_enter Tryz.func29, Tryz.ntmps29
  go_upto_region 1 with (fail)
  generalize ((w.alloc (.cells CA 28)).alloc (.cells CB 28)) = w0 at *
  clear HCA HCB hta htb
  have a4 := hA.sigs hoa.att
  have b4 := hB.sigs hob.att
  have la := loadAtt_in hA.att hoa.att
  have lb := loadAtt_in hB.att hob.att
  have heq := fun W => eq_att a.att b.att hoa.att hob.att W
  obtain ⟨q, HQ⟩ : ∃ q : Bool, Hid (decide (a.att = b.att) = q) := ⟨_, hid rfl⟩
  rw [HQ.out] at heq
  obtain ⟨GA, HGA⟩ : ∃ C : Array Value, Hid (atc a.att = C) := ⟨_, hid rfl⟩
  obtain ⟨GB, HGB⟩ : ∃ C : Array Value, Hid (atc b.att = C) := ⟨_, hid rfl⟩
  rw [HGA.out] at la heq
  rw [HGB.out] at lb heq
  have HEQ := hid (equalSg_any _ _ _ _ w0 hta0 htb0 hoa.sg hob.sg hla)
  obtain ⟨q2, HQ2⟩ : ∃ q : Bool, Hid (decide (a.sg = b.sg) = q) := ⟨_, hid rfl⟩
  rw [HQ2.out] at HEQ
  have HANS : Hid (ans = (q && q2)) := hid (by
    rw [← HAN.out, ← HQ.out, ← HQ2.out]
    obtain ⟨p1, p2⟩ := a
    obtain ⟨q1, q2⟩ := b
    simp only [CtM.mk.injEq, Bool.decide_and])
  obtain ⟨LA, HLA⟩ : ∃ n : Nat, Hid (a.sg.length = n) := ⟨_, hid rfl⟩
  obtain ⟨LB, HLB⟩ : ∃ n : Nat, Hid (b.sg.length = n) := ⟨_, hid rfl⟩
  rw [HLA.out] at a4 HEQ
  rw [HLB.out] at b4 HEQ
  clear hA hB hoa hob HGA HGB hta0 htb0 hla hlb
  cases q with
  | false =>
    obtain rfl : ans = false := HANS.out
    clear a4 b4
    go_wp2_with fail
    go_ret
    exact ⟨rfl, hb0⟩
  | true =>
    obtain rfl : ans = q2 := HANS.out
    go_wp2_with fail
    refine HEQ.out.mono ?_
    rintro e w1 ⟨rfl, hb1⟩
    clear a4 b4 la lb heq
    go_wp2_with fail
    go_ret
    exact ⟨rfl, hb0.trans (hb1.mono hb0.size)⟩
end Go.Proofs.YtjemfmbmlmogcaaGreat
namespace Go.Proofs.YtjemfmbmlmogcaaGreat
set_option maxRecDepth 20000
open Go.RowKit
noncomputable def buildSg2 (u v : Value) (w : World) : Result Next := Sem.run Tryz.prog (execOp (fun x => match x with
  | .tmp 0 => u
  | _ => v) { dst := none, op := .build 111 #[(0, .tmp 0), (1, .tmp 1)], type := 0, pos := "", after := #[], guard := none }) w
theorem exec_build_sg2 (r : Operand → Value) (x y : Operand) (dst : Option Tmp) (ty : TypeId) (pos : String) (after : Array Edge) (guard : Option (Nat × Bool)) (w : World) :
    Sem.run Tryz.prog (execOp r { dst := dst, op := .build 111 #[(0, x), (1, y)], type := ty, pos := pos, after := after, guard := guard }) w = buildSg2 (r x) (r y) w := by
  unfold buildSg2 execOp
  simp
theorem buildSg2_eq (n : Int) (t : List UInt8) (ht : t.length = 32) (w : World) : buildSg2 (.int .i64 n) (.agg (hcells t)) w = .ok (.value (.agg (sgc ⟨n, t⟩))) w := by
  have hsz : (hcells t).size = 32 := by rw [hcells_size, ht]
  have e0 : (hcells t).zipIdx = ((bcells t).zipIdx).toArray := by simp [hcells]
  unfold buildSg2
  go_simp
  have e := putAt_mid (bcells t) [.int .i64 n] (bcells z32) [] (by rw [bcells_length, bcells_length, ht]; rfl)
  simp only [List.append_nil, List.length_cons, List.length_nil] at e
  exact (fold_putSgO (bcells t) 0 1 _).trans e
theorem results_cb {fn : Func} {q s : Tmp} (h : fn.results = #[.cell q 28, .tmp s]) (tmps : Array Value) (w : World) (g2 : Nat) (t2 : TypeId) (ys : Array Value) (v : Value)
    (hq : tmps.getD q undef = .pointer (some ⟨g2, 0, none⟩)) (hv : tmps.getD s undef = v) (h2 : w.heap[g2]? = some (.cells ys t2 (0, 0))) (hy : ys.size = 102) :
    (results fn tmps).run Tryz.prog w = .ok (.tuple #[.agg ys, v]) w := by
  have hq' : tmps[q]?.getD undef = .pointer (some ⟨g2, 0, none⟩) := by simpa using hq
  have hv' : tmps[s]?.getD undef = v := by simpa using hv
  have r2 := run_loadVar_row (P := Tryz.prog) w g2 t2 28 ys (0, 0) _ h2 under_ct rfl (by rw [size_ct, hy])
  simp [results, h, hq', hv', asAddr, r2]
end Go.Proofs.YtjemfmbmlmogcaaGreat
