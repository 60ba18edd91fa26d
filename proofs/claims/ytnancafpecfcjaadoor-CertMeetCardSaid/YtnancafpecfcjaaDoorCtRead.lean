/-
  tithingref09.Read: the certificate that bytes begin with.
-/
import Derived.Test.YtnancafpecfcjaaDoorBs11
import Derived.Test.YtnancafpecfcjaaDoorBs6
import Derived.LoopTactic
namespace Go.Proofs.YtnancafpecfcjaaDoor
set_option maxRecDepth 20000
open Go.RowKit
attribute [local go_sem ↓] exec_load_ct exec_alloc_ct exec_store_ct exec_build_ct exec_load_sg exec_alloc_sg exec_store_sg exec_build_sg exec_slice_sg

/-- Two results that lie in memory, and one that doesn't. -/
theorem results_rc {fn : Func} {p q s : Tmp} (h : fn.results = #[.cell p 46, .cell q 30, .tmp s]) (tmps : Array Value) (w : World) (g1 g2 : Nat) (t1 t2 : TypeId) (xs ys : Array Value) (v : Value)
    (hp : tmps.getD p undef = .pointer (some ⟨g1, 0, none⟩)) (hq : tmps.getD q undef = .pointer (some ⟨g2, 0, none⟩)) (hv : tmps.getD s undef = v) (h1 : w.heap[g1]? = some (.cells xs t1 (0, 0))) (h2 : w.heap[g2]? = some (.cells ys t2 (0, 0))) (hx : xs.size = 3) (hy : ys.size = 102) :
    (results fn tmps).run Tryd.prog w = .ok (.tuple #[.agg xs, .agg ys, v]) w := by
  have hp' : tmps[p]?.getD undef = .pointer (some ⟨g1, 0, none⟩) := by simpa using hp
  have hq' : tmps[q]?.getD undef = .pointer (some ⟨g2, 0, none⟩) := by simpa using hq
  have hv' : tmps[s]?.getD undef = v := by simpa using hv
  have r1 := run_loadVar_row (P := Tryd.prog) w g1 t1 46 xs (0, 0) _ h1 under_ref rfl (by rw [size_ref, hx])
  have r2 := run_loadVar_row (P := Tryd.prog) w g2 t2 30 ys (0, 0) _ h2 under_ct rfl (by rw [size_ct, hy])
  simp [results, h, hp', hq', hv', asAddr, r1, r2]

/-- What Read tells. -/
def CrPost (A : Option Addr) (c p : Nat) (r : Bool) (l : List UInt8) (w : World) (e : Ending) (w' : World) : Prop :=
  ∃ x, e = .returned (.tuple #[rv A l.length c (rawC l p r).2.1 (!(rawC l p r).2.2), x, .bool (ctIs l p r)]) ∧ CtV w' x (ctOf l p r) ∧ Below w.heap.size w w'
section
variable {A : Option Addr} {c p q : Nat} {r t : Bool} {l : List UInt8} {w w' : World} {cc : CtM} {s : Value}
theorem crPost_no (hr : rawC l p r = (cc, q, t)) (hi : ctIs l p r = false) (hb : Below w.heap.size w w') : CrPost A c p r l w (.returned (.tuple #[rv A l.length c q (!t), .agg (ctc ctZ (.slice none 0 0)), .bool false])) w' := by
  refine ⟨.agg (ctc ctZ (.slice none 0 0)), ?_, ?_, hb⟩
  · rw [hr, hi]
  · unfold ctOf
    rw [hi, if_neg (by decide)]
    exact ⟨_, rfl, ctZ_ok, Els.nil w'⟩
theorem crPost_yes (hr : rawC l p r = (cc, q, true)) (hi : ctIs l p r = true) (ho : cc.Ok) (hs : Els scl 33 w' s cc.sg) (hb : Below w.heap.size w w') : CrPost A c p r l w (.returned (.tuple #[rv A l.length c q false, .agg (ctc cc s), .bool true])) w' := by
  refine ⟨.agg (ctc cc s), ?_, ?_, hb⟩
  · rw [hr, hi]
    rfl
  · unfold ctOf
    rw [hi, if_pos rfl, hr]
    exact ⟨_, rfl, ho, hs⟩
end

set_option maxHeartbeats 12800000 in
theorem refRead9_post (A : Option Addr) (c p : Nat) (r : Bool) (l : List UInt8) (w : World) (hv : Byt w (.slice A l.length c) l) (hp : p ≤ l.length) (hl : l.length ≤ 1000000) :
    Calls Tryd.prog 17 #[rv A l.length c p (!r)] w (CrPost A c p r l w) := by
  have HH := hid (fun p r (hp : p ≤ l.length) (w' : World) (hb : Below w.heap.size w w') => refHash_any A c p r l w' (hv.below hb) hp (by omega))
  have HU := hid (fun p r (hp : p ≤ l.length) m (h1 : -9223372036854775808 ≤ m) (h2 : m ≤ 9223372036854775807) (w' : World) (hb : Below w.heap.size w w') => refUpto_any A c p r l m w' (hv.below hb) hp (by omega) h1 h2)
  obtain ⟨Z, HZ⟩ : ∃ C : Array Value, Hid (ctc ctZ (.slice none 0 0) = C) := ⟨_, hid rfl⟩
  have hbz : ∀ W, buildCt W = .ok (.value (.agg Z)) W := fun W => by rw [← HZ.out]; exact buildCt_eq W
  have hal : ∀ W, allocCt W = .ok (.value (.pointer (some ⟨W.heap.size, 0, none⟩))) (W.alloc (.cells Z 30)) := fun W => by rw [← HZ.out]; exact allocCt_eq W
  have hsz : Z.size = 102 := by rw [← HZ.out]; exact ctc_size _ atZ_ok
  have hz1 : Z.all (·.oneCell') = true := by rw [← HZ.out]; exact ctc_one (w := w) (c := ctZ) (Els.nil w)
  have hst0 := CtSt.new w (.slice A l.length c) (.int .i64 (p : Int)) (.bool (!r))
  rw [HZ.out] at hst0
  have hs0 : storeCt (.pointer (some ⟨w.heap.size + 1 + 1 + 1, 0, none⟩)) (.agg Z) ((((w.alloc (.cells #[.slice A l.length c, .int .i64 (p : Int), .bool (!r)] 46)).alloc (.cells #[.slice none 0 0, .int .i64 0, .bool false] 46)).alloc (.cells Z 30)).alloc (.cells Z 30)) = .ok .skip ((((w.alloc (.cells #[.slice A l.length c, .int .i64 (p : Int), .bool (!r)] 46)).alloc (.cells #[.slice none 0 0, .int .i64 0, .bool false] 46)).alloc (.cells Z 30)).alloc (.cells Z 30)) := by
    have hg : BoxC _ _ ctZ _ := hst0.b3
    unfold BoxC at hg
    rw [HZ.out] at hg
    rw [storeCt_eq hg hsz hsz hz1, setCt_self hg]
  have HSZ := hid hsz
  have HZ1 := hid hz1
  have HBZ := hid hbz
  clear hv hsz hz1
  unfold rv
  go_enter Tryd.func17, Tryd.ntmps17
  go_wp2_with fail
  obtain ⟨a1, p1, r1, HA1⟩ : ∃ x q s, Hid (rdUpto 3 l p r = (x, q, s)) := ⟨_, _, _, hid rfl⟩
  have hp1 : p1 ≤ l.length := by have := rdUpto_pl (m := 3) (r := r) hp; rw [HA1.out] at this; exact this
  have C := HU.out p r hp 3 (by omega) (by omega) _ (hst0).bel
  rw [HA1.out] at C
  refine C.mono ?_
  clear C
  rintro e w1 ⟨rfl, hb⟩
  have hst : CtSt w w1 (.slice A l.length c) (.int .i64 (p : Int)) (.bool (!r)) ⟨0, 0, 0, 0, z32, 0, z32, z32⟩ (.slice none 0 0) := (hst0).below hb
  clear hb hst0 hs0 hbz hal
  obtain ⟨⟨c0, c1, c2⟩, ⟨k0, k1, k2, k3, k5⟩, g0, g3⟩ := hst.cells ⟨rfl, rfl, rfl⟩
  have HST := hid hst
  clear hst
  unfold rv
  go_wp2_with fail
  obtain ⟨a2, p2, r2, HA2⟩ : ∃ x q s, Hid (rdUpto 1099511627776 l p1 r1 = (x, q, s)) := ⟨_, _, _, hid rfl⟩
  have hp2 : p2 ≤ l.length := by have := rdUpto_pl (m := 1099511627776) (r := r1) hp1; rw [HA2.out] at this; exact this
  have C := HU.out p1 r1 hp1 1099511627776 (by omega) (by omega) _ (((HST.out.put (.slice A l.length c) (.int .i64 (p1 : Int)) (.bool (!r1))).cell ⟨rfl, rfl, rfl⟩ (b := ⟨0, (a1 : Int), 0, 0, z32, 0, z32, z32⟩) (v := .int .i64 (a1 : Int)) 1 (by omega) rfl)).bel
  rw [HA2.out] at C
  refine C.mono ?_
  clear C
  rintro e w2 ⟨rfl, hb⟩
  have hst : CtSt w w2 (.slice A l.length c) (.int .i64 (p1 : Int)) (.bool (!r1)) ⟨0, (a1 : Int), 0, 0, z32, 0, z32, z32⟩ (.slice none 0 0) := (((HST.out.put (.slice A l.length c) (.int .i64 (p1 : Int)) (.bool (!r1))).cell ⟨rfl, rfl, rfl⟩ (b := ⟨0, (a1 : Int), 0, 0, z32, 0, z32, z32⟩) (v := .int .i64 (a1 : Int)) 1 (by omega) rfl)).below hb
  clear hb HST c0 c1 c2 k0 k1 k2 k3 k5 g0 g3
  obtain ⟨⟨c0, c1, c2⟩, ⟨k0, k1, k2, k3, k5⟩, g0, g3⟩ := hst.cells ⟨rfl, rfl, rfl⟩
  have HST := hid hst
  clear hst
  unfold rv
  go_wp2_with fail
  obtain ⟨a3, p3, r3, HA3⟩ : ∃ x q s, Hid (rdUpto 3 l p2 r2 = (x, q, s)) := ⟨_, _, _, hid rfl⟩
  have hp3 : p3 ≤ l.length := by have := rdUpto_pl (m := 3) (r := r2) hp2; rw [HA3.out] at this; exact this
  have C := HU.out p2 r2 hp2 3 (by omega) (by omega) _ (((HST.out.put (.slice A l.length c) (.int .i64 (p2 : Int)) (.bool (!r2))).cell ⟨rfl, rfl, rfl⟩ (b := ⟨0, (a1 : Int), (a2 : Int), 0, z32, 0, z32, z32⟩) (v := .int .i64 (a2 : Int)) 2 (by omega) rfl)).bel
  rw [HA3.out] at C
  refine C.mono ?_
  clear C
  rintro e w3 ⟨rfl, hb⟩
  have hst : CtSt w w3 (.slice A l.length c) (.int .i64 (p2 : Int)) (.bool (!r2)) ⟨0, (a1 : Int), (a2 : Int), 0, z32, 0, z32, z32⟩ (.slice none 0 0) := (((HST.out.put (.slice A l.length c) (.int .i64 (p2 : Int)) (.bool (!r2))).cell ⟨rfl, rfl, rfl⟩ (b := ⟨0, (a1 : Int), (a2 : Int), 0, z32, 0, z32, z32⟩) (v := .int .i64 (a2 : Int)) 2 (by omega) rfl)).below hb
  clear hb HST c0 c1 c2 k0 k1 k2 k3 k5 g0 g3
  obtain ⟨⟨c0, c1, c2⟩, ⟨k0, k1, k2, k3, k5⟩, g0, g3⟩ := hst.cells ⟨rfl, rfl, rfl⟩
  have HST := hid hst
  clear hst
  unfold rv
  go_wp2_with fail
  obtain ⟨h4, p4, r4, HA4⟩ : ∃ x q s, Hid (rdHash l p3 r3 = (x, q, s)) := ⟨_, _, _, hid rfl⟩
  have hp4 : p4 ≤ l.length := by have := rdHash_pl8 (l := l) (p := p3) (r := r3) hp3; rw [HA4.out] at this; exact this
  have HL4 : Hid (h4.length = 32) := hid (by have := rdHash_32 l p3 r3; rw [HA4.out] at this; exact this)
  have C := HH.out p3 r3 hp3 _ (((HST.out.put (.slice A l.length c) (.int .i64 (p3 : Int)) (.bool (!r3))).cell ⟨rfl, rfl, rfl⟩ (b := ⟨0, (a1 : Int), (a2 : Int), (a3 : Int), z32, 0, z32, z32⟩) (v := .int .i64 (a3 : Int)) 3 (by omega) rfl)).bel
  rw [HA4.out] at C
  refine C.mono ?_
  clear C
  rintro e w4 ⟨rfl, hb⟩
  have hst : CtSt w w4 (.slice A l.length c) (.int .i64 (p3 : Int)) (.bool (!r3)) ⟨0, (a1 : Int), (a2 : Int), (a3 : Int), z32, 0, z32, z32⟩ (.slice none 0 0) := (((HST.out.put (.slice A l.length c) (.int .i64 (p3 : Int)) (.bool (!r3))).cell ⟨rfl, rfl, rfl⟩ (b := ⟨0, (a1 : Int), (a2 : Int), (a3 : Int), z32, 0, z32, z32⟩) (v := .int .i64 (a3 : Int)) 3 (by omega) rfl)).below hb
  clear hb HST c0 c1 c2 k0 k1 k2 k3 k5 g0 g3
  obtain ⟨⟨c0, c1, c2⟩, ⟨k0, k1, k2, k3, k5⟩, g0, g3⟩ := hst.cells ⟨rfl, rfl, rfl⟩
  have HST := hid hst
  clear hst
  unfold rv
  go_wp2_with (refine wpList_store_cha rfl _ _ rfl rfl rfl (HST.out.put (.slice A l.length c) (.int .i64 (p4 : Int)) (.bool (!r4))).b3 ⟨rfl, rfl, rfl⟩ HL4.out ?_; intro wP hgP hbP hsP; have HSP : Hid (CtSt w wP (.slice A l.length c) (.int .i64 (p4 : Int)) (.bool (!r4)) ⟨0, (a1 : Int), (a2 : Int), (a3 : Int), h4, 0, z32, z32⟩ (.slice none 0 0)) := hid ((HST.out.put (.slice A l.length c) (.int .i64 (p4 : Int)) (.bool (!r4))).att hgP hbP); obtain ⟨⟨d0, d1, d2⟩, ⟨e0, e1, e2, e3, e5⟩, f0, f3⟩ := HSP.out.cells ⟨HL4.out, rfl, rfl⟩; clear hgP hbP hsP)
  clear HST c0 c1 c2 k0 k1 k2 k3 k5 g0 g3
  obtain ⟨a5, p5, r5, HA5⟩ : ∃ x q s, Hid (rdUpto 1099511627776 l p4 r4 = (x, q, s)) := ⟨_, _, _, hid rfl⟩
  have hp5 : p5 ≤ l.length := by have := rdUpto_pl (m := 1099511627776) (r := r4) hp4; rw [HA5.out] at this; exact this
  have C := HU.out p4 r4 hp4 1099511627776 (by omega) (by omega) _ (HSP.out).bel
  rw [HA5.out] at C
  refine C.mono ?_
  clear C
  rintro e w5 ⟨rfl, hb⟩
  have hst : CtSt w w5 (.slice A l.length c) (.int .i64 (p4 : Int)) (.bool (!r4)) ⟨0, (a1 : Int), (a2 : Int), (a3 : Int), h4, 0, z32, z32⟩ (.slice none 0 0) := (HSP.out).below hb
  clear hb HSP d0 d1 d2 e0 e1 e2 e3 e5 f0 f3
  obtain ⟨⟨c0, c1, c2⟩, ⟨k0, k1, k2, k3, k5⟩, g0, g3⟩ := hst.cells ⟨HL4.out, rfl, rfl⟩
  have HST := hid hst
  clear hst
  unfold rv
  go_wp2_with fail
  obtain ⟨h6, p6, r6, HA6⟩ : ∃ x q s, Hid (rdHash l p5 r5 = (x, q, s)) := ⟨_, _, _, hid rfl⟩
  have hp6 : p6 ≤ l.length := by have := rdHash_pl8 (l := l) (p := p5) (r := r5) hp5; rw [HA6.out] at this; exact this
  have HL6 : Hid (h6.length = 32) := hid (by have := rdHash_32 l p5 r5; rw [HA6.out] at this; exact this)
  have C := HH.out p5 r5 hp5 _ (((HST.out.put (.slice A l.length c) (.int .i64 (p5 : Int)) (.bool (!r5))).cell ⟨HL4.out, rfl, rfl⟩ (b := ⟨0, (a1 : Int), (a2 : Int), (a3 : Int), h4, (a5 : Int), z32, z32⟩) (v := .int .i64 (a5 : Int)) 36 (by omega) (atc_pv ⟨HL4.out, rfl, rfl⟩ _))).bel
  rw [HA6.out] at C
  refine C.mono ?_
  clear C
  rintro e w6 ⟨rfl, hb⟩
  have hst : CtSt w w6 (.slice A l.length c) (.int .i64 (p5 : Int)) (.bool (!r5)) ⟨0, (a1 : Int), (a2 : Int), (a3 : Int), h4, (a5 : Int), z32, z32⟩ (.slice none 0 0) := (((HST.out.put (.slice A l.length c) (.int .i64 (p5 : Int)) (.bool (!r5))).cell ⟨HL4.out, rfl, rfl⟩ (b := ⟨0, (a1 : Int), (a2 : Int), (a3 : Int), h4, (a5 : Int), z32, z32⟩) (v := .int .i64 (a5 : Int)) 36 (by omega) (atc_pv ⟨HL4.out, rfl, rfl⟩ _))).below hb
  clear hb HST c0 c1 c2 k0 k1 k2 k3 k5 g0 g3
  obtain ⟨⟨c0, c1, c2⟩, ⟨k0, k1, k2, k3, k5⟩, g0, g3⟩ := hst.cells ⟨HL4.out, rfl, rfl⟩
  have HST := hid hst
  clear hst
  unfold rv
  go_wp2_with (refine wpList_store_cpa rfl _ _ rfl rfl rfl (HST.out.put (.slice A l.length c) (.int .i64 (p6 : Int)) (.bool (!r6))).b3 ⟨HL4.out, rfl, rfl⟩ HL6.out ?_; intro wP hgP hbP hsP; have HSP : Hid (CtSt w wP (.slice A l.length c) (.int .i64 (p6 : Int)) (.bool (!r6)) ⟨0, (a1 : Int), (a2 : Int), (a3 : Int), h4, (a5 : Int), h6, z32⟩ (.slice none 0 0)) := hid ((HST.out.put (.slice A l.length c) (.int .i64 (p6 : Int)) (.bool (!r6))).att hgP hbP); obtain ⟨⟨d0, d1, d2⟩, ⟨e0, e1, e2, e3, e5⟩, f0, f3⟩ := HSP.out.cells ⟨HL4.out, HL6.out, rfl⟩; clear hgP hbP hsP)
  clear HST c0 c1 c2 k0 k1 k2 k3 k5 g0 g3
  obtain ⟨a7, p7, r7, HA7⟩ : ∃ x q s, Hid (rdUpto 21 l p6 r6 = (x, q, s)) := ⟨_, _, _, hid rfl⟩
  have hp7 : p7 ≤ l.length := by have := rdUpto_pl (m := 21) (r := r6) hp6; rw [HA7.out] at this; exact this
  have C := HU.out p6 r6 hp6 21 (by omega) (by omega) _ (HSP.out).bel
  rw [HA7.out] at C
  refine C.mono ?_
  clear C
  rintro e w7 ⟨rfl, hb⟩
  have hst : CtSt w w7 (.slice A l.length c) (.int .i64 (p6 : Int)) (.bool (!r6)) ⟨0, (a1 : Int), (a2 : Int), (a3 : Int), h4, (a5 : Int), h6, z32⟩ (.slice none 0 0) := (HSP.out).below hb
  clear hb HSP d0 d1 d2 e0 e1 e2 e3 e5 f0 f3
  obtain ⟨⟨c0, c1, c2⟩, ⟨k0, k1, k2, k3, k5⟩, g0, g3⟩ := hst.cells ⟨HL4.out, HL6.out, rfl⟩
  have HST := hid hst
  clear hst
  unfold rv
  have HN21 : Hid (a7 ≤ 21) := hid (by have := rdUpto_le (m := 21) (l := l) (p := p6) (r := r6); rw [show ((21 : Nat) : Int) = 21 from rfl, HA7.out] at this; exact this)
  obtain ⟨a, HAT⟩ : ∃ a : AtM, Hid ((⟨0, (a1 : Int), (a2 : Int), (a3 : Int), h4, (a5 : Int), h6, z32⟩ : AtM) = a) := ⟨_, hid rfl⟩
  have HOK : Hid a.Ok := hid (by rw [← HAT.out]; exact ⟨HL4.out, HL6.out, rfl⟩)
  have HRAW : Hid (rawC l p r = (⟨a, (rdSigs l p7 r7 a7).1⟩, (rdSigs l p7 r7 a7).2)) := hid (by rw [← HAT.out]; unfold rawC; simp only [HA1.out, HA2.out, HA3.out, HA4.out, HA5.out, HA6.out, HA7.out])
  go_wp2_with fail
  have HST7 := hid (HST.out.put (.slice A l.length c) (.int .i64 (p7 : Int)) (.bool (!r7)))
  rw [HAT.out] at HST7
  clear HST c0 c1 c2 k0 k1 k2 k3 k5 g0 g3 HA1 HA2 HA3 HA4 HA5 HA6 HA7 HAT HL4 HL6
  go_loopw [7] (fun si wr => ∃ (i : Nat) (s : Value), i ≤ a7 ∧ si = .int .i64 (i : Int) ∧ CtSt w wr (.slice A l.length c) (.int .i64 ((rdSigs l p7 r7 i).2.1 : Int)) (.bool (!(rdSigs l p7 r7 i).2.2)) a s ∧ OwnE scl 33 63 (w.heap.size + 1 + 1 + 1 + 1) wr s (rdSigs l p7 r7 i).1 ∧ (rdSigs l p7 r7 i).2.1 ≤ l.length) (fun si _ => a7 - (intOf si).toNat)
  case atStart => exact ⟨0, _, Nat.zero_le _, rfl, HST7.out, OwnE.nil _ _, hp7⟩
  case round =>
    obtain ⟨i, s, hi, rfl, hst, hown, hpl⟩ := hrel
    by_cases hlt : i < a7
    · obtain ⟨L, q, t, HR⟩ : ∃ x y z, Hid (rdSigs l p7 r7 i = (x, y, z)) := ⟨_, _, _, hid rfl⟩
      have HLN : Hid (L.length ≤ 21) := hid (by have := rdSigs_len l p7 r7 i; rw [HR.out] at this; have := HN21.out; simp only at *; omega)
      rw [HR.out] at hst hown hpl
      simp only at hst hown hpl
      obtain ⟨x8, q8, t8, HA8⟩ : ∃ x y z, Hid (rdUpto 21 l q t = (x, y, z)) := ⟨_, _, _, hid rfl⟩
      obtain ⟨h9, q9, t9, HA9⟩ : ∃ x y z, Hid (rdHash l q8 t8 = (x, y, z)) := ⟨_, _, _, hid rfl⟩
      have hq8 : q8 ≤ l.length := by have := rdUpto_pl (m := 21) (r := t) hpl; rw [HA8.out] at this; exact this
      have hq9 : q9 ≤ l.length := by have := rdHash_pl8 (l := l) (p := q8) (r := t8) hq8; rw [HA9.out] at this; exact this
      have HL9 : Hid (h9.length = 32) := hid (by have := rdHash_32 l q8 t8; rw [HA9.out] at this; exact this)
      have HRN : Hid (rdSigs l p7 r7 (i + 1) = (L ++ [⟨(x8 : Int), h9⟩], q9, t9)) := hid (by unfold rdSigs; simp only [HR.out, HA8.out, HA9.out])
      have HI : Hid (i < a7) := hid hlt
      have h21 := HN21.out
      have hI : (i : Int) < (a7 : Int) := by omega
      have hlts := hst.lt
      have hob : Hid (∀ b, s.ownBlock = some b → b < wr.heap.size) := hid (fun b e => (World.ownsRow.lt hown b e).2)
      have hob2 : Hid (∀ b, s.ownBlock = some b → w.heap.size + 1 + 1 + 1 < b) := hid (fun b e => (World.ownsRow.lt hown b e).1)
      obtain ⟨ZS, HZS⟩ : ∃ C : Array Value, Hid (sgc sgZ = C) := ⟨_, hid rfl⟩
      have hbs : ∀ W, buildSg W = .ok (.value (.agg ZS)) W := fun W => by rw [← HZS.out]; exact buildSg_eq W
      have has : ∀ W, allocSg W = .ok (.value (.pointer (some ⟨W.heap.size, 0, none⟩))) (W.alloc (.cells ZS 63)) := fun W => by rw [← HZS.out]; exact allocSg_eq W
      have hss : storeSg (.pointer (some ⟨wr.heap.size, 0, none⟩)) (.agg ZS) (wr.alloc (.cells ZS 63)) = .ok .skip (wr.alloc (.cells ZS 63)) := by rw [← HZS.out]; exact sg_var wr (sgc_size sgZ_ok) (sgc_size sgZ_ok) (sgc_one _)
      have hbA : Below wr.heap.size wr (wr.alloc (.cells ZS 63)) := (Below.refl _ _).alloc (Nat.le_refl _) _
      have HSTA := hid (hst.below hbA)
      have HOWA := hid (hown.alloc (.cells ZS 63))
      have HRA := hid (heap_alloc_new wr (.cells ZS 63))
      obtain ⟨⟨c0, c1, c2⟩, _, g0, _⟩ := HSTA.out.cells HOK.out
      clear hst hown hbA
      go_wp2_with fail
      have C := HU.out q t hpl 21 (by omega) (by omega) _ HSTA.out.bel
      rw [HA8.out] at C
      refine C.mono ?_
      clear C
      rintro e w8 ⟨rfl, hb8⟩
      have hst8 := HSTA.out.below hb8
      have hr8 := (hb8.block _ (lt_of_block HRA.out)).trans HRA.out
      have how8 := HOWA.out.below hb8
      rw [← HZS.out] at hr8
      clear c0 c1 c2 g0 hbs has hss hb8
      obtain ⟨⟨c0, c1, c2⟩, _, g0, _⟩ := hst8.cells HOK.out
      have s0 : w8.cell? ⟨wr.heap.size, 0, none⟩ = some (.int .i64 0) := cell_blk hr8 0
      have g1 := free_blk hr8
      have HST8 := hid hst8
      have HR8 := hid hr8
      have HOW8 := hid how8
      have n1 : ¬ wr.heap.size = w.heap.size := by omega
      have n2 : ¬ w.heap.size = wr.heap.size := by omega
      clear hst8 hr8 how8
      unfold rv
      go_wp2_with fail
      have HSTB := hid ((HST8.out.put (.slice A l.length c) (.int .i64 (q8 : Int)) (.bool (!t8))).far hlts 0 (.int .i64 (x8 : Int)))
      have C := HH.out q8 t8 hq8 _ HSTB.out.bel
      rw [HA9.out] at C
      refine C.mono ?_
      clear C
      rintro e w9 ⟨rfl, hb9⟩
      have hst9 := HSTB.out.below hb9
      have hrB := set_blk (blk_other (blk_other (blk_other HR8.out (.slice A l.length c) (i := 0) (b := w.heap.size) n1) (.int .i64 (q8 : Int)) (i := 1) (b := w.heap.size) n1) (.bool (!t8)) (i := 2) (b := w.heap.size) n1) 0 (.int .i64 (x8 : Int))
      rw [show sgc sgZ = sgc ⟨0, z32⟩ from rfl, sgc_by] at hrB
      have hr9 := (hb9.block _ (lt_of_block hrB)).trans hrB
      have how9 := ((((HOW8.out.set (g := w.heap.size) (by omega) 0 (.slice A l.length c)).set (g := w.heap.size) (by omega) 1 (.int .i64 (q8 : Int))).set (g := w.heap.size) (by omega) 2 (.bool (!t8))).keep (fun b _ e => Below.heap_setCell _ ⟨wr.heap.size, 0, none⟩ (.int .i64 (x8 : Int)) b (fun e' => by have := hob.out b e; simp only at e'; omega))).below hb9
      clear c0 c1 c2 g0 g1 s0 hb9 hrB
      obtain ⟨⟨c0, c1, c2⟩, _, g0, _⟩ := hst9.cells HOK.out
      have HSTC := hid (hst9.put (.slice A l.length c) (.int .i64 (q9 : Int)) (.bool (!t9)))
      have HOWC := hid (((how9.set (g := w.heap.size) (by omega) 0 (.slice A l.length c)).set (g := w.heap.size) (by omega) 1 (.int .i64 (q9 : Int))).set (g := w.heap.size) (by omega) 2 (.bool (!t9)))
      have HRC := hid (blk_other (blk_other (blk_other hr9 (.slice A l.length c) (i := 0) (b := w.heap.size) n1) (.int .i64 (q9 : Int)) (i := 1) (b := w.heap.size) n1) (.bool (!t9)) (i := 2) (b := w.heap.size) n1)
      clear hst9 how9 hr9
      obtain ⟨G, HG⟩ : ∃ C : Array Value, Hid (sgc ⟨(x8 : Int), h9⟩ = C) := ⟨_, hid rfl⟩
      have hGS : G.size = 33 := by rw [← HG.out]; exact sgc_size HL9.out
      have hsl : ∀ W, sliceSg (.agg G) W = .ok (.value (.slice (some ⟨W.heap.size, 0, none⟩) 1 1)) (W.alloc (.cells G 63)) := fun W => by rw [← HG.out]; exact sliceSg_eq ⟨(x8 : Int), h9⟩ HL9.out W
      have HGL : Hid ((scl ⟨(x8 : Int), h9⟩).toArray = G) := hid HG.out
      have HSGK : Hid (∀ u ∈ [(⟨(x8 : Int), h9⟩ : SgM)], u.Ok) := hid (fun u hu => by obtain rfl := List.mem_singleton.1 hu; exact HL9.out)
      unfold rv
      go_upto_region 16 with (refine wpList_store_midh (pre := [.int .i64 (x8 : Int)]) (old := bcells z32) (post := []) rfl _ _ rfl rfl rfl HRC.out rfl rfl HL9.out ?_; intro wP hgP hrP hsP; have HSP := hid (HSTC.out.grown hgP (fun k hk => by injection hk with hk; omega)); have HOWP := hid (HOWC.out.keep (fun b hb e => hgP.block b hb (fun e' => by injection e' with e'; have := hob.out b e; omega))); have HRP : Hid (wP.heap[wr.heap.size]? = some (.cells G 63 (0, 0))) := hid (by rw [← HG.out]; unfold sgc scl; rw [List.append_nil] at hrP; exact hrP); have hld : loadSg (.pointer (some ⟨wr.heap.size, 0, none⟩)) wP = .ok (.value (.agg G)) wP := (by rw [← HG.out]; exact loadSg_mid (s := ⟨(x8 : Int), h9⟩) (fun j u hu => by rw [Nat.zero_add, cell_blk HRP.out j, ← HG.out]; unfold sgc; rw [List.getElem?_toArray]; exact hu) HL9.out); obtain ⟨_, ⟨_, _, _, _, k5⟩, _, g3⟩ := HSP.out.cells HOK.out; clear hgP hrP hsP)
      go_wp2_with (at_builtin; go_loud (refine eltSg.wpList_append (x := .slice (some ⟨wP.heap.size, 0, none⟩) 1 1) (m := [(⟨(x8 : Int), h9⟩ : SgM)]) rfl (.tmp 76) (.tmp 78) rfl rfl rfl HSGK.out (HOWP.out.alloc _) (els_one wP (⟨(x8 : Int), h9⟩ : SgM) G 63 HGL.out) (by have := HLN.out; simp only [List.length_cons, List.length_nil]; omega) (Nat.le_trans HSP.out.lt (al_le _ _)) ?_; intro v10 w10 ho10 hg10 hv10; have HST11 := hid ((HSP.out.below ((Below.refl _ _).alloc (Nat.le_refl _) _)).grown hg10 (fun k hk => hob2.out k hk)); obtain ⟨_, ⟨_, _, _, _, k6⟩, _, g4⟩ := HST11.out.cells HOK.out; obtain ⟨A9, n9, c9, rfl⟩ : ∃ A n c, v10 = .slice A n c := (by obtain ⟨A, c, e⟩ := ho10.shape; exact ⟨_, _, _, e⟩); clear hg10 hv10))
      go_roundw
      case rel =>
        refine ⟨i + 1, .slice A9 n9 c9, by omega, by go_num, ?_, ?_, ?_⟩
        · rw [HRN.out]
          exact HST11.out.sig HOK.out _
        · rw [HRN.out]
          exact ho10.set (g := w.heap.size + 1 + 1 + 1) (by omega) 101 _
        · rw [HRN.out]
          exact hq9
      case measure => simp [intOf]; omega
    · obtain rfl : i = a7 := by omega
      have hI : ¬ (i : Int) < (i : Int) := by omega
      obtain ⟨L, q, t, HR⟩ : ∃ x y z, Hid (rdSigs l p7 r7 i = (x, y, z)) := ⟨_, _, _, hid rfl⟩
      have HLO : Hid (∀ x ∈ L, x.Ok) := hid (by have := rdSigs_ok l p7 r7 i; rw [HR.out] at this; exact this)
      have HRW : Hid (rawC l p r = (⟨a, L⟩, q, t)) := hid (by rw [HRAW.out, HR.out])
      rw [HR.out] at hst hown
      simp only at hst hown
      have HST := hid hst
      have HOW := hid hown
      clear hst hown
      obtain ⟨SA, SN, SC, rfl⟩ : ∃ A n c, s = .slice A n c := by obtain ⟨A, c, e⟩ := HOW.out.shape; exact ⟨_, _, _, e⟩
      obtain ⟨CA, HCA⟩ : ∃ C : Array Value, Hid (ctc ⟨a, L⟩ (.slice SA SN SC) = C) := ⟨_, hid rfl⟩
      have HCS : Hid (CA.size = 102 ∧ CA.all (·.oneCell') = true) := hid (by rw [← HCA.out]; exact ⟨ctc_size (c := ⟨a, L⟩) _ HOK.out, ctc_one (c := ⟨a, L⟩) (HOW.out.els eltSg HLO.out)⟩)
      obtain ⟨m, HM⟩ : ∃ b : Bool, Hid (mayC ⟨a, L⟩ = b) := ⟨_, hid rfl⟩
      have HIS : Hid (ctIs l p r = (t && m)) := hid (by unfold ctIs; rw [HRW.out, HM.out])
      cases t with
      | false =>
        have HI : Hid (ctIs l p r = false) := hid (by rw [HIS.out]; rfl)
        have hbz := HBZ.out
        have i0 := cell_blk HST.out.b1 0
        have i1 := cell_blk HST.out.b1 1
        have i2 := cell_blk HST.out.b1 2
        have j1 := free_blk HST.out.b1
        simp at i0 i1 i2
        obtain ⟨⟨d0, d1, d2⟩, _, _, _⟩ := HST.out.cells HOK.out
        have hfin : (((wr.setCell ⟨w.heap.size + 1, 0, none⟩ (.slice A l.length c)).setCell ⟨w.heap.size + 1, 1, none⟩ (.int .i64 (q : Int))).setCell ⟨w.heap.size + 1, 2, none⟩ (.bool true)).heap[w.heap.size + 1]? = some (.cells #[.slice A l.length c, .int .i64 (q : Int), .bool true] 46 (0, 0)) := set_blk (set_blk (set_blk HST.out.b1 0 _) 1 _) 2 _
        have hfin2 : (((wr.setCell ⟨w.heap.size + 1, 0, none⟩ (.slice A l.length c)).setCell ⟨w.heap.size + 1, 1, none⟩ (.int .i64 (q : Int))).setCell ⟨w.heap.size + 1, 2, none⟩ (.bool true)).heap[w.heap.size + 1 + 1]? = some (.cells Z 30 (0, 0)) := by
          have hg := HST.out.b2
          unfold BoxC at hg
          rw [HZ.out] at hg
          exact blk_other (blk_other (blk_other hg _ (by omega)) _ (by omega)) _ (by omega)
        have hfb : Below w.heap.size w (((wr.setCell ⟨w.heap.size + 1, 0, none⟩ (.slice A l.length c)).setCell ⟨w.heap.size + 1, 1, none⟩ (.int .i64 (q : Int))).setCell ⟨w.heap.size + 1, 2, none⟩ (.bool true)) := ((HST.out.bel.setCell (Nat.le_succ _) _).setCell (Nat.le_succ _) _).setCell (Nat.le_succ _) _
        have hs : storeCt (.pointer (some ⟨w.heap.size + 1 + 1, 0, none⟩)) (.agg Z) (((wr.setCell ⟨w.heap.size + 1, 0, none⟩ (.slice A l.length c)).setCell ⟨w.heap.size + 1, 1, none⟩ (.int .i64 (q : Int))).setCell ⟨w.heap.size + 1, 2, none⟩ (.bool true)) = .ok .skip (((wr.setCell ⟨w.heap.size + 1, 0, none⟩ (.slice A l.length c)).setCell ⟨w.heap.size + 1, 1, none⟩ (.int .i64 (q : Int))).setCell ⟨w.heap.size + 1, 2, none⟩ (.bool true)) := by
          rw [storeCt_eq hfin2 HSZ.out HSZ.out HZ1.out, setCt_self hfin2]
        have HF1 := hid hfin
        have HF2 := hid hfin2
        have HFB := hid hfb
        clear hfin hfin2 hfb
        go_wp2_with fail
        refine bodyPost_ret (results_rc rfl _ _ _ _ _ _ _ _ _ rfl rfl rfl HF1.out HF2.out rfl HSZ.out) rfl ?_
        rw [← HZ.out]
        exact crPost_no HRW.out HI.out HFB.out
      | true =>
        have hld : loadCt (.pointer (some ⟨w.heap.size + 1 + 1 + 1, 0, none⟩)) wr = .ok (.value (.agg CA)) wr := by
          have h : wr.heap[w.heap.size + 1 + 1 + 1]? = some (.cells (ctc ⟨a, L⟩ (.slice SA SN SC)) 30 (0, 0)) := HST.out.b3
          rw [HCA.out] at h
          exact loadCt_row h HCS.out.1
        have HMA : Hid (Calls Tryd.prog 20 #[.agg CA] wr fun e w' => e = .returned (.bool m) ∧ Below wr.heap.size wr w') := hid (by
          have := refMay9_any (.agg CA) ⟨a, L⟩ wr ⟨_, by rw [HCA.out], ⟨HOK.out, HLO.out⟩, HOW.out.els eltSg HLO.out⟩
          rw [HM.out] at this
          exact this)
        obtain ⟨⟨d0, d1, d2⟩, _, _, _⟩ := HST.out.cells HOK.out
        go_wp2_with fail
        refine HMA.out.mono ?_
        rintro e w9 ⟨rfl, hb9⟩
        have HS9 := hid (HST.out.below hb9)
        have HO9 := hid (HOW.out.below hb9)
        clear hld d0 d1 d2 hb9
        cases m with
        | false =>
          have HI : Hid (ctIs l p r = false) := hid (by rw [HIS.out]; rfl)
          have hbz := HBZ.out
          have i0 := cell_blk HS9.out.b1 0
          have i1 := cell_blk HS9.out.b1 1
          have i2 := cell_blk HS9.out.b1 2
          have j1 := free_blk HS9.out.b1
          simp at i0 i1 i2
          obtain ⟨⟨d0, d1, d2⟩, _, _, _⟩ := HS9.out.cells HOK.out
          have hfin : (((w9.setCell ⟨w.heap.size + 1, 0, none⟩ (.slice A l.length c)).setCell ⟨w.heap.size + 1, 1, none⟩ (.int .i64 (q : Int))).setCell ⟨w.heap.size + 1, 2, none⟩ (.bool false)).heap[w.heap.size + 1]? = some (.cells #[.slice A l.length c, .int .i64 (q : Int), .bool false] 46 (0, 0)) := set_blk (set_blk (set_blk HS9.out.b1 0 _) 1 _) 2 _
          have hfin2 : (((w9.setCell ⟨w.heap.size + 1, 0, none⟩ (.slice A l.length c)).setCell ⟨w.heap.size + 1, 1, none⟩ (.int .i64 (q : Int))).setCell ⟨w.heap.size + 1, 2, none⟩ (.bool false)).heap[w.heap.size + 1 + 1]? = some (.cells Z 30 (0, 0)) := by
            have hg := HS9.out.b2
            unfold BoxC at hg
            rw [HZ.out] at hg
            exact blk_other (blk_other (blk_other hg _ (by omega)) _ (by omega)) _ (by omega)
          have hfb : Below w.heap.size w (((w9.setCell ⟨w.heap.size + 1, 0, none⟩ (.slice A l.length c)).setCell ⟨w.heap.size + 1, 1, none⟩ (.int .i64 (q : Int))).setCell ⟨w.heap.size + 1, 2, none⟩ (.bool false)) := ((HS9.out.bel.setCell (Nat.le_succ _) _).setCell (Nat.le_succ _) _).setCell (Nat.le_succ _) _
          have hs : storeCt (.pointer (some ⟨w.heap.size + 1 + 1, 0, none⟩)) (.agg Z) (((w9.setCell ⟨w.heap.size + 1, 0, none⟩ (.slice A l.length c)).setCell ⟨w.heap.size + 1, 1, none⟩ (.int .i64 (q : Int))).setCell ⟨w.heap.size + 1, 2, none⟩ (.bool false)) = .ok .skip (((w9.setCell ⟨w.heap.size + 1, 0, none⟩ (.slice A l.length c)).setCell ⟨w.heap.size + 1, 1, none⟩ (.int .i64 (q : Int))).setCell ⟨w.heap.size + 1, 2, none⟩ (.bool false)) := by
            rw [storeCt_eq hfin2 HSZ.out HSZ.out HZ1.out, setCt_self hfin2]
          have HF1 := hid hfin
          have HF2 := hid hfin2
          have HFB := hid hfb
          clear hfin hfin2 hfb
          go_wp2_with fail
          refine bodyPost_ret (results_rc rfl _ _ _ _ _ _ _ _ _ rfl rfl rfl HF1.out HF2.out rfl HSZ.out) rfl ?_
          rw [← HZ.out]
          exact crPost_no HRW.out HI.out HFB.out
        | true =>
          have HI : Hid (ctIs l p r = true) := hid (by rw [HIS.out]; rfl)
          go_upto_region 19 with (fail)
          have HXR : Hid (∀ W : World, W.heap[w.heap.size]? = some (.cells #[.slice A l.length c, .int .i64 (q : Int), .bool false] 46 (0, 0)) → W.heap[w.heap.size + 1 + 1 + 1]? = some (.cells (ctc ⟨a, L⟩ (.slice SA SN SC)) 30 (0, 0)) →
            W.cell? ⟨w.heap.size, 0, none⟩ = some (.slice A l.length c) ∧ W.cell? ⟨w.heap.size, 1, none⟩ = some (.int .i64 (q : Int)) ∧ W.cell? ⟨w.heap.size, 2, none⟩ = some (.bool false) ∧ loadCt (.pointer (some ⟨w.heap.size + 1 + 1 + 1, 0, none⟩)) W = .ok (.value (.agg CA)) W) := hid (fun W h0 h3 => by
            rw [HCA.out] at h3
            exact ⟨cell_blk h0 0, cell_blk h0 1, cell_blk h0 2, loadCt_row h3 HCS.out.1⟩)
          have HB0 : Hid (w9.heap[w.heap.size]? = some (.cells #[.slice A l.length c, .int .i64 (q : Int), .bool false] 46 (0, 0))) := hid HS9.out.b0
          have HB3 : Hid (w9.heap[w.heap.size + 1 + 1 + 1]? = some (.cells (ctc ⟨a, L⟩ (.slice SA SN SC)) 30 (0, 0))) := hid HS9.out.b3
          have HB1 := hid HS9.out.b1
          have HB2 : Hid (w9.heap[w.heap.size + 1 + 1]? = some (.cells Z 30 (0, 0))) := hid (by have := HS9.out.b2; unfold BoxC at this; rw [HZ.out] at this; exact this)
          have HBL := hid HS9.out.bel
          have hlt := HS9.out.lt
          have hR3 : (#[.slice A l.length c, .int .i64 (q : Int), .bool false] : Array Value).all (·.oneCell') = true := all_oneCell_toArray (by intro u hu; simp only [List.mem_cons, List.not_mem_nil, or_false] at hu; obtain rfl | rfl | rfl := hu <;> rfl)
          refine wp_region_held_drew (S := fun W => W.cell? ⟨w.heap.size, 0, none⟩ = some (.slice A l.length c) ∧ W.cell? ⟨w.heap.size, 1, none⟩ = some (.int .i64 (q : Int)) ∧ W.cell? ⟨w.heap.size, 2, none⟩ = some (.bool false) ∧ loadCt (.pointer (some ⟨w.heap.size + 1 + 1 + 1, 0, none⟩)) W = .ok (.value (.agg CA)) W) (by kernel_rfl) (HXR.out w9.drew HB0.out HB3.out) (fun hHeld => ?_)
          refine' take_on (i := 0) (v := _) rfl (by kernel_rfl) (by kernel_rfl) (by kernel_rfl) (fun _ _ _ h => h) (by rfl) ?_ (by assumption) ?_
          rotate_left
          · (intro W hW; (try dsimp only at hW); obtain ⟨hW1, hW2, hW3, _⟩ := hW; go_simp; first | done | with_reducible rfl)
          try simp only [Act.put, List.setIfInBounds_toArray, List.set_cons_zero, List.set_cons_succ]
          refine' take_on (i := 1) (v := _) rfl (by kernel_rfl) (by kernel_rfl) (by kernel_rfl) (fun _ _ _ h => h) (by rfl) (fun W hW => hW.2.2.2) (by assumption) ?_
          try simp only [Act.put, List.setIfInBounds_toArray, List.set_cons_zero, List.set_cons_succ]
          refine call_on (i := 2) rfl (by kernel_rfl) (by rfl) (fun K hK => ?_)
          refine wp_store_whole (w := w9.drew) (C := #[.slice A l.length c, .int .i64 (q : Int), .bool false]) _ _ rfl rfl rfl HB1.out size_ref rfl hR3 ?_
          intro wa hga hra hsa
          have h0 := (hga.block _ (by show _ < w9.heap.size; omega) (fun e => by injection e with e; omega)).trans HB0.out
          have h2 := (hga.block _ (by show _ < w9.heap.size; omega) (fun e => by injection e with e; omega)).trans HB2.out
          have h3 := (hga.block _ (by show _ < w9.heap.size; omega) (fun e => by injection e with e; omega)).trans HB3.out
          refine hK.out _ _ (HXR.out wa h0 h3) (fun hHeld => ?_)
          clear hK K
          refine call_on (i := 3) rfl (by kernel_rfl) (by rfl) (fun K hK => ?_)
          refine wp_store_whole (w := wa) (C := CA) _ _ rfl rfl rfl h2 (by rw [size_ct, HCS.out.1]) (by rw [HSZ.out, HCS.out.1]) HCS.out.2 ?_
          intro wb hgb hrb hsb
          have i0 := (hgb.block _ (lt_of_block h0) (fun e => by injection e with e; omega)).trans h0
          have i3 := (hgb.block _ (lt_of_block h3) (fun e => by injection e with e; omega)).trans h3
          have hra2 := (hgb.block _ (lt_of_block hra) (fun e => by injection e with e; omega)).trans hra
          have hlt0 := lt_of_block h0
          have hlti := lt_of_block i0
          have hBB : Below w.heap.size w wb := below_into (below_into (HBL.out.drew) (Nat.le_succ _) hga (by show _ ≤ w9.heap.size; omega)) (by omega) hgb (by omega)
          have HOB : Hid (OwnE scl 33 63 (w.heap.size + 1 + 1 + 1 + 1) wb (.slice SA SN SC) L) := hid (OwnE.far (OwnE.far (w := w9.drew) HO9.out hga (by omega)) hgb (by omega))
          refine hK.out _ _ (HXR.out wb i0 i3) (fun hHeld => ?_)
          clear hK K
          refine' take_on (i := 4) (v := _) rfl (by kernel_rfl) (by kernel_rfl) (by kernel_rfl) (fun _ _ _ h => h) (by rfl) ?_ (by assumption) ?_
          rotate_left
          · (intro W hW; (try dsimp only at hW); go_simp; first | done | with_reducible rfl)
          try simp only [Act.put, List.setIfInBounds_toArray, List.set_cons_zero, List.set_cons_succ]
          refine wpAnyH_done (by kernel_rfl) ?_ _
          go_wp2_with fail
          refine bodyPost_ret (results_rc rfl _ _ _ _ _ _ _ _ _ rfl rfl rfl hra2 hrb rfl HCS.out.1) rfl ?_
          rw [← HCA.out]
          exact crPost_yes HRW.out HI.out ⟨HOK.out, HLO.out⟩ (HOB.out.els eltSg HLO.out) hBB

theorem refRead9_any (A : Option Addr) (c p : Nat) (r : Bool) (l : List UInt8) (w : World) (hv : Byt w (.slice A l.length c) l) (hp : p ≤ l.length) (hl : l.length ≤ 1000000) :
    Calls Tryd.prog 17 #[rv A l.length c p (!r)] w fun e w' => ∃ x, e = .returned (.tuple #[rv A l.length c (rawC l p r).2.1 (!(rawC l p r).2.2), x, .bool (ctIs l p r)]) ∧ CtV w' x (ctOf l p r) ∧ Below w.heap.size w w' := refRead9_post A c p r l w hv hp hl
end Go.Proofs.YtnancafpecfcjaaDoor
