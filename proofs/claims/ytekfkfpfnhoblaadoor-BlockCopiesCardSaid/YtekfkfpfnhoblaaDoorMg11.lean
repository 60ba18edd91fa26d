/-
  BkGet TxRefId Cut Cuts TxPutsWalk BkOk: what each of them says stands at its head.
-/
import Derived.Test.YtekfkfpfnhoblaaDoorMg10
import Derived.Test.YtekfkfpfnhoblaaDoorMg6
import Derived.Test.YtekfkfpfnhoblaaDoorMg2
import Derived.Test.YtekfkfpfnhoblaaDoorMg4
import Derived.Test.YtekfkfpfnhoblaaDoorMg9
import Derived.Deep.DeepCutAuto
import Derived.Test.YtekfkfpfnhoblaaDoorMg1
import Derived.Test.YtekfkfpfnhoblaaDoorMg8
import Derived.Test.YtekfkfpfnhoblaaDoorMg3
import Derived.Deep.RegionHeld3
/-
  The document's answer for which block bytes are: tithingref07.Get.
-/
namespace Go.Proofs.YtekfkfpfnhoblaaDoor
set_option maxRecDepth 20000
open Go.RowKit
attribute [local go_sem ↓] exec_load_tx exec_load_bk exec_build_bk exec_alloc_bk exec_store_bk

/-- The block that is told: the one whose bytes they are, or the first one. -/
noncomputable def gotK (l : List UInt8) : BkM := (getK l).getD bkZ
noncomputable def isK (l : List UInt8) : Bool := (getK l).isSome
theorem rdHash_pl {l : List UInt8} {p : Nat} {r : Bool} (hp : p ≤ l.length) : (rdHash l p r).2.1 ≤ l.length := by
  unfold rdHash
  split
  · exact hp
  · split
    · assumption
    · exact hp

/-- What Get tells. -/
def GetPost (w : World) (l : List UInt8) (e : Ending) (w' : World) : Prop := ∃ x, e = .returned (.tuple #[x, .bool (isK l)]) ∧ BkV w' x (gotK l) ∧ Below w.heap.size w w'

/-- Two results: a block that lies in memory, and one that doesn't. -/
theorem results_kb {fn : Func} {p q : Tmp} (h : fn.results = #[.cell p 26, .tmp q]) (tmps : Array Value) (w : World) (g : Nat) (t : TypeId) (xs : Array Value) (v : Value)
    (hp : tmps.getD p undef = .pointer (some ⟨g, 0, none⟩)) (hv : tmps.getD q undef = v) (h1 : w.heap[g]? = some (.cells xs t (0, 0))) (hx : xs.size = 36) : (results fn tmps).run Tryd.prog w = .ok (.tuple #[.agg xs, v]) w := by
  have hp' : tmps[p]?.getD undef = .pointer (some ⟨g, 0, none⟩) := by simpa using hp
  have hv' : tmps[q]?.getD undef = v := by simpa using hv
  have r1 := run_loadVar_row (P := Tryd.prog) w g t 26 xs (0, 0) _ h1 under_bk rfl (by rw [size_bk, hx])
  simp [results, h, hp', hv', asAddr, r1]
theorem getPost_no {w w' : World} {l : List UInt8} (hn : getK l = none) (hb : Below w.heap.size w w') : GetPost w l (.returned (.tuple #[.agg (bkc bkZ (.slice none 0 0)), .bool false])) w' := by
  refine ⟨_, by unfold isK; rw [hn]; rfl, ?_, hb⟩
  unfold gotK
  rw [hn]
  exact ⟨_, rfl, bkZ_par, Txs.nil w'⟩
theorem getPost_yes {w w' : World} {l : List UInt8} {b : BkM} {s : Value} (hn : getK l = some b) (hp : b.par.length = 32) (ht : Txs w' s b.txs) (hb : Below w.heap.size w w') : GetPost w l (.returned (.tuple #[.agg (bkc b s), .bool true])) w' := by
  refine ⟨_, by unfold isK; rw [hn]; rfl, ?_, hb⟩
  unfold gotK
  rw [hn]
  exact ⟨_, rfl, hp, ht⟩
theorem rdTxs_succ {l : List UInt8} {p q i : Nat} {r r' : Bool} {ts : List TxM} (h : rdTxs l p r i = some (ts, q, r')) (ok : rdIs l q r' = true) : rdTxs l p r (i + 1) = some (ts ++ [rdTx l q r'], (rdRaw l q r').2.1, true) := by
  unfold rdTxs
  rw [h]
  simp only
  rw [if_pos ok]
theorem rdTxs_stop {l : List UInt8} {p q i : Nat} {r r' : Bool} {ts : List TxM} (h : rdTxs l p r i = some (ts, q, r')) (ok : rdIs l q r' = false) : rdTxs l p r (i + 1) = none := by
  unfold rdTxs
  rw [h]
  simp only
  rw [if_neg (by rw [ok]; decide)]
theorem rdIs_pl {l : List UInt8} {q : Nat} {r : Bool} (ok : rdIs l q r = true) : (rdRaw l q r).2.1 ≤ l.length := by
  obtain ⟨_, hm, hq, x, hx⟩ := rdTx_so ok
  have hpos : 0 < (bytesT (rdTx l q r)).length := by
    unfold bytesT
    rw [List.length_append]
    have := dg_pos (rdTx l q r).fr.toNat
    omega
  have := drop_len hx hpos
  omega
theorem light_of_may {b : BkM} (h : ∀ t ∈ b.txs, mayT t = true) : lightK b := fun t ht => by
  obtain ⟨_, _, h3⟩ := mayT_iff (h t ht)
  rcases h3 with ⟨_, _, _, hk, hv⟩ | ⟨_, _, _, hk, hv⟩ | ⟨_, _, _, hk, hv⟩
  · simp [hk, hv]
  · exact ⟨by have := keyOk_len hk; omega, by omega⟩
  · exact ⟨by have := keyOk_len hk; omega, by simp [hv]⟩

theorem GtSt.grow {w0 w w' : World} {x0 x1 x2 s : Value} {b : BkM} {ts : List TxM} (h : GtSt w0 w x0 x1 x2 b s) (ho : OwnT (w0.heap.size + 3) w s ts) (hg : w.grownBy w' s.ownBlock) : GtSt w0 w' x0 x1 x2 b s :=
  h.keep ((Below.refl _ _).grown hg (by have := h.lt; omega) (fun k hk => (World.ownsRow.lt ho k hk).1))
theorem OwnT.alloc {B : Nat} {w : World} {v : Value} {L : List TxM} (h : OwnT B w v L) (o : Obj) : OwnT B (w.alloc o) v L := h.below ((Below.refl _ _).alloc (Nat.le_refl _) o)
theorem OwnT.shape3 {B : Nat} {w : World} {v : Value} {L : List TxM} (h : OwnT B w v L) : ∃ A n c, v = .slice A n c := by
  obtain ⟨A, c, e⟩ := h.txs.shape
  exact ⟨A, _, c, e⟩
theorem OwnT.setK {B g : Nat} {w : World} {v : Value} {L : List TxM} {C : Array Value} (h : OwnT B w v L) (hg : g < B) : OwnT B (setK w g C) v L := h.keep fun b _ e => setK_other w C (fun e' => by
  have := (World.ownsRow.lt h b e).1
  omega)
theorem GtSt.alloc {w0 w : World} {x0 x1 x2 s : Value} {b : BkM} (h : GtSt w0 w x0 x1 x2 b s) (o : Obj) : GtSt w0 (w.alloc o) x0 x1 x2 b s := h.below ((Below.refl _ _).alloc (Nat.le_refl _) o)

set_option maxHeartbeats 6400000 in
theorem refGet7_any (v : Value) (l : List UInt8) (w : World) (hv : Byt w v l) (hl : l.length ≤ 1000000) :
    Calls Tryd.prog 19 #[v] w (GetPost w l) := by
  obtain ⟨A, c, rfl⟩ := hv.shape
  have HH := hid (fun p r (hp : p ≤ l.length) (w' : World) (hb : Below w.heap.size w w') => refHash_any A c p r l w' (hv.below hb) hp (by omega))
  have HU := hid (fun p r (hp : p ≤ l.length) m (h1 : -9223372036854775808 ≤ m) (h2 : m ≤ 9223372036854775807) (w' : World) (hb : Below w.heap.size w w') => refUpto_any A c p r l m w' (hv.below hb) hp (by omega) h1 h2)
  have HT := hid (fun p r (hp : p ≤ l.length) (w' : World) (hb : Below w.heap.size w w') => refTx_any A c p r l w' (hv.below hb) hp hl)
  have HSM := hid (fun u L (w' : World) (hb : Below w.heap.size w w') (hu : Byt w' u L) => same_any u (.slice A l.length c) L l w' hu (hv.below hb))
  obtain ⟨Z, HZ⟩ : ∃ C : Array Value, Hid (bkc bkZ (.slice none 0 0) = C) := ⟨_, hid rfl⟩
  have hbz : ∀ W, buildK W = .ok (.value (.agg Z)) W := fun W => by rw [← HZ.out]; exact buildK_eq W
  have hal : ∀ W, allocK W = .ok (.value (.pointer (some ⟨W.heap.size, 0, none⟩))) (W.alloc (.cells Z 26)) := fun W => by rw [← HZ.out]; exact allocK_eq W
  have hsz : Z.size = 36 := by rw [← HZ.out]; exact bkc_size _ bkZ_par
  have hz1 : Z.all (·.oneCell') = true := by rw [← HZ.out]; exact bkc_one (w := w) (b := bkZ) (Txs.nil w)
  have hs0 : storeK (.pointer (some ⟨w.heap.size + 1, 0, none⟩)) (.agg Z) ((w.alloc (.cells Z 26)).alloc (.cells Z 26)) = .ok .skip ((w.alloc (.cells Z 26)).alloc (.cells Z 26)) := by
    have hg := heap2 w (.cells Z 26) (.cells Z 26)
    rw [storeK_eq hg hsz hsz hz1, setK_self hg]
  have HSZ := hid hsz
  have HZ1 := hid hz1
  have hst0 := GtSt.new w (.slice A l.length c) (.int .i64 0) (.bool false)
  rw [HZ.out] at hst0
  clear hv hsz hz1
  go_enter Tryd.func19, Tryd.ntmps19
  go_wp2_with fail
  obtain ⟨h0, p0, r0, HA0⟩ : ∃ x q s, Hid (rdHash l 0 true = (x, q, s)) := ⟨_, _, _, hid rfl⟩
  have hp0 : p0 ≤ l.length := by have := rdHash_pl (l := l) (p := 0) (r := true) (Nat.zero_le _); rw [HA0.out] at this; exact this
  have hh0 : h0.length = 32 := by have := rdHash_32 l 0 true; rw [HA0.out] at this; exact this
  have C := HH.out 0 true (Nat.zero_le _) _ hst0.bel
  rw [HA0.out] at C
  refine C.mono ?_
  clear C
  rintro e w1 ⟨rfl, hb⟩
  have hst := hst0.below hb
  clear hb hst0
  obtain ⟨⟨c20, c21, c22⟩, ⟨c10, c11, c12, c13⟩, g1, g2⟩ := hst.cells bkZ_par
  have HST := hid hst
  have HH0 := hid hh0
  have HBZ := hid hbz
  clear hst hs0 hbz hal hh0
  unfold rv
  go_wp2_with (refine wpList_store_par rfl _ _ rfl rfl rfl (HST.out.put (.slice A l.length c) (.int .i64 (p0 : Int)) (.bool (!r0))).b1 bkZ_par HH0.out ?_; intro wP hgP hbP hsP; have HSP : Hid (GtSt w wP (.slice A l.length c) (.int .i64 (p0 : Int)) (.bool (!r0)) ⟨h0, 0, 0, 0, []⟩ (.slice none 0 0)) := hid ((HST.out.put (.slice A l.length c) (.int .i64 (p0 : Int)) (.bool (!r0))).par hgP hbP); obtain ⟨⟨d20, d21, d22⟩, ⟨d10, d11, d12, d13⟩, f1, f2⟩ := HSP.out.cells HH0.out; clear hgP hbP hsP)
  clear HST c20 c21 c22 c10 c11 c12 c13 g1 g2
  obtain ⟨a1, p1, r1, HA1⟩ : ∃ x q s, Hid (rdUpto 1099511627776 l p0 r0 = (x, q, s)) := ⟨_, _, _, hid rfl⟩
  have hp1 : p1 ≤ l.length := by have := rdUpto_pl (m := 1099511627776) (r := r0) hp0; rw [HA1.out] at this; exact this
  have hm1 : a1 ≤ 1099511627776 := by have := rdUpto_le (m := 1099511627776) (l := l) (p := p0) (r := r0); rw [show ((1099511627776 : Nat) : Int) = 1099511627776 from rfl, HA1.out] at this; exact this
  have C := HU.out p0 r0 hp0 1099511627776 (by omega) (by omega) _ (HSP.out).bel
  rw [HA1.out] at C
  refine C.mono ?_
  clear C
  rintro e w2 ⟨rfl, hb⟩
  have hst : GtSt w w2 (.slice A l.length c) (.int .i64 (p0 : Int)) (.bool (!r0)) ⟨h0, 0, 0, 0, []⟩ (.slice none 0 0) := (HSP.out).below hb
  clear hb HSP d20 d21 d22 d10 d11 d12 d13 f1 f2
  obtain ⟨⟨c20, c21, c22⟩, ⟨c10, c11, c12, c13⟩, g1, g2⟩ := hst.cells HH0.out
  have HST := hid hst
  clear hst
  unfold rv
  go_wp2_with fail
  obtain ⟨a2, p2, r2, HA2⟩ : ∃ x q s, Hid (rdUpto 1099511627776 l p1 r1 = (x, q, s)) := ⟨_, _, _, hid rfl⟩
  have hp2 : p2 ≤ l.length := by have := rdUpto_pl (m := 1099511627776) (r := r1) hp1; rw [HA2.out] at this; exact this
  have hm2 : a2 ≤ 1099511627776 := by have := rdUpto_le (m := 1099511627776) (l := l) (p := p1) (r := r1); rw [show ((1099511627776 : Nat) : Int) = 1099511627776 from rfl, HA2.out] at this; exact this
  have C := HU.out p1 r1 hp1 1099511627776 (by omega) (by omega) _ ((HST.out.put (.slice A l.length c) (.int .i64 (p1 : Int)) (.bool (!r1))).cell HH0.out (b' := ⟨h0, (a1 : Int), 0, 0, []⟩) (s' := .slice none 0 0) (v := .int .i64 (a1 : Int)) 0 rfl).bel
  rw [HA2.out] at C
  refine C.mono ?_
  clear C
  rintro e w3 ⟨rfl, hb⟩
  have hst : GtSt w w3 (.slice A l.length c) (.int .i64 (p1 : Int)) (.bool (!r1)) ⟨h0, (a1 : Int), 0, 0, []⟩ (.slice none 0 0) := ((HST.out.put (.slice A l.length c) (.int .i64 (p1 : Int)) (.bool (!r1))).cell HH0.out (b' := ⟨h0, (a1 : Int), 0, 0, []⟩) (s' := .slice none 0 0) (v := .int .i64 (a1 : Int)) 0 rfl).below hb
  clear hb HST c20 c21 c22 c10 c11 c12 c13 g1 g2
  obtain ⟨⟨c20, c21, c22⟩, ⟨c10, c11, c12, c13⟩, g1, g2⟩ := hst.cells HH0.out
  have HST := hid hst
  clear hst
  unfold rv
  go_wp2_with fail
  obtain ⟨a3, p3, r3, HA3⟩ : ∃ x q s, Hid (rdUpto 21 l p2 r2 = (x, q, s)) := ⟨_, _, _, hid rfl⟩
  have hp3 : p3 ≤ l.length := by have := rdUpto_pl (m := 21) (r := r2) hp2; rw [HA3.out] at this; exact this
  have hm3 : a3 ≤ 21 := by have := rdUpto_le (m := 21) (l := l) (p := p2) (r := r2); rw [show ((21 : Nat) : Int) = 21 from rfl, HA3.out] at this; exact this
  have C := HU.out p2 r2 hp2 21 (by omega) (by omega) _ ((HST.out.put (.slice A l.length c) (.int .i64 (p2 : Int)) (.bool (!r2))).cell HH0.out (b' := ⟨h0, (a1 : Int), (a2 : Int), 0, []⟩) (s' := .slice none 0 0) (v := .int .i64 (a2 : Int)) 1 rfl).bel
  rw [HA3.out] at C
  refine C.mono ?_
  clear C
  rintro e w4 ⟨rfl, hb⟩
  have hst : GtSt w w4 (.slice A l.length c) (.int .i64 (p2 : Int)) (.bool (!r2)) ⟨h0, (a1 : Int), (a2 : Int), 0, []⟩ (.slice none 0 0) := ((HST.out.put (.slice A l.length c) (.int .i64 (p2 : Int)) (.bool (!r2))).cell HH0.out (b' := ⟨h0, (a1 : Int), (a2 : Int), 0, []⟩) (s' := .slice none 0 0) (v := .int .i64 (a2 : Int)) 1 rfl).below hb
  clear hb HST c20 c21 c22 c10 c11 c12 c13 g1 g2
  obtain ⟨⟨c20, c21, c22⟩, ⟨c10, c11, c12, c13⟩, g1, g2⟩ := hst.cells HH0.out
  have HST := hid hst
  clear hst
  unfold rv
  go_wp2_with fail
  obtain ⟨a4, p4, r4, HA4⟩ : ∃ x q s, Hid (rdUpto 8 l p3 r3 = (x, q, s)) := ⟨_, _, _, hid rfl⟩
  have hp4 : p4 ≤ l.length := by have := rdUpto_pl (m := 8) (r := r3) hp3; rw [HA4.out] at this; exact this
  have hm4 : a4 ≤ 8 := by have := rdUpto_le (m := 8) (l := l) (p := p3) (r := r3); rw [show ((8 : Nat) : Int) = 8 from rfl, HA4.out] at this; exact this
  have C := HU.out p3 r3 hp3 8 (by omega) (by omega) _ ((HST.out.put (.slice A l.length c) (.int .i64 (p3 : Int)) (.bool (!r3))).cell HH0.out (b' := ⟨h0, (a1 : Int), (a2 : Int), (a3 : Int), []⟩) (s' := .slice none 0 0) (v := .int .i64 (a3 : Int)) 2 rfl).bel
  rw [HA4.out] at C
  refine C.mono ?_
  clear C
  rintro e w5 ⟨rfl, hb⟩
  have hst : GtSt w w5 (.slice A l.length c) (.int .i64 (p3 : Int)) (.bool (!r3)) ⟨h0, (a1 : Int), (a2 : Int), (a3 : Int), []⟩ (.slice none 0 0) := ((HST.out.put (.slice A l.length c) (.int .i64 (p3 : Int)) (.bool (!r3))).cell HH0.out (b' := ⟨h0, (a1 : Int), (a2 : Int), (a3 : Int), []⟩) (s' := .slice none 0 0) (v := .int .i64 (a3 : Int)) 2 rfl).below hb
  clear hb HST c20 c21 c22 c10 c11 c12 c13 g1 g2
  obtain ⟨⟨c20, c21, c22⟩, ⟨c10, c11, c12, c13⟩, g1, g2⟩ := hst.cells HH0.out
  have HST := hid hst
  clear hst
  unfold rv
  have hst4 : GtSt w (((w5.setCell ⟨w.heap.size + 1 + 1, 0, none⟩ (.slice A l.length c)).setCell ⟨w.heap.size + 1 + 1, 1, none⟩ (.int .i64 (p4 : Int))).setCell ⟨w.heap.size + 1 + 1, 2, none⟩ (.bool (!r4))) (.slice A l.length c) (.int .i64 (p4 : Int)) (.bool (!r4)) ⟨h0, (a1 : Int), (a2 : Int), (a3 : Int), []⟩ (.slice none 0 0) := HST.out.put (.slice A l.length c) (.int .i64 (p4 : Int)) (.bool (!r4))
  have HD : Hid (rdHd l = ⟨h0, (a1 : Int), (a2 : Int), (a3 : Int), a4, p4, r4⟩) := hid (by unfold rdHd; simp only [HA0.out, HA1.out, HA2.out, HA3.out, HA4.out])
  go_wp2_with fail
  generalize (((w5.setCell ⟨w.heap.size + 1 + 1, 0, none⟩ (.slice A l.length c)).setCell ⟨w.heap.size + 1 + 1, 1, none⟩ (.int .i64 (p4 : Int))).setCell ⟨w.heap.size + 1 + 1, 2, none⟩ (.bool (!r4))) = w6 at hst4 ⊢
  clear HST c20 c21 c22 c10 c11 c12 c13 g1 g2 HH HU HA0 HA1 HA2 HA3 HA4 hp0 hp1 hp2 hp3
  go_loopw [7] (fun si wr => ∃ (i : Nat) (ts : List TxM) (q : Nat) (r : Bool) (s : Value), i ≤ a4 ∧ si = .int .i64 i ∧ Hid (rdTxs l p4 r4 i = some (ts, q, r)) ∧ q ≤ l.length ∧ GtSt w wr (.slice A l.length c) (.int .i64 (q : Int)) (.bool (!r)) ⟨h0, (a1 : Int), (a2 : Int), (a3 : Int), ts⟩ s ∧ OwnT (w.heap.size + 3) wr s ts) (fun si _ => a4 - (intOf si).toNat)
  case atStart => exact ⟨0, [], p4, r4, .slice none 0 0, Nat.zero_le _, rfl, hid rfl, hp4, hst4, OwnT.nil _ _⟩
  case round =>
    obtain ⟨i, ts, q, r, s, hi, rfl, HR, hq, hst, how⟩ := hrel
    clear hst4
    have HST := hid hst
    have HOW := hid how
    obtain ⟨⟨c20, c21, c22⟩, ⟨c10, c11, c12, c13⟩, g1, g2⟩ := hst.cells HH0.out
    clear hst how
    by_cases hlt : i < a4
    · have hI : (i : Int) < (a4 : Int) := by omega
      go_wp2_with fail
      have C := HT.out q r hq _ HST.out.bel
      obtain ⟨q', HQ'⟩ : ∃ x, Hid ((rdRaw l q r).2.1 = x) := ⟨_, hid rfl⟩
      obtain ⟨r', HR'⟩ : ∃ x, Hid ((rdRaw l q r).2.2 = x) := ⟨_, hid rfl⟩
      obtain ⟨t, HTT⟩ : ∃ x, Hid (rdTx l q r = x) := ⟨_, hid rfl⟩
      obtain ⟨ok, HOK⟩ : ∃ x, Hid (rdIs l q r = x) := ⟨_, hid rfl⟩
      rw [HQ'.out, HR'.out, HTT.out, HOK.out] at C
      refine C.mono ?_
      clear C
      rintro e w7 ⟨rfl, hb⟩
      unfold rv txv
      clear c20 c21 c22 c10 c11 c12 c13 g1 g2
      obtain ⟨CR, HCR⟩ : ∃ C : Array Value, Hid (#[.slice A l.length c, .int .i64 (q' : Int), .bool (!r')] = C) := ⟨_, hid rfl⟩
      obtain ⟨CT, HCT⟩ : ∃ C : Array Value, Hid (#[.int .i64 t.fr, .int .i64 t.no, .int .i64 t.ki, .int .i64 t.to, .int .i64 t.am, .string (sb t.key), .string (sb t.val)] = C) := ⟨_, hid rfl⟩
      have hrd := heap1 w7 (.cells CR 61) (.cells CT 45)
      have htx := heap2 w7 (.cells CR 61) (.cells CT 45)
      have hb8 : Below w7.heap.size w7 ((w7.alloc (.cells CR 61)).alloc (.cells CT 45)) := ((Below.refl _ _).alloc (Nat.le_refl _) _).alloc (by simp) _
      have hst8 := (HST.out.below hb).below hb8
      have how8 := (HOW.out.below hb).below hb8
      rw [← HCR.out, ← HCT.out] at hrd htx hst8 how8
      have hlt7 := (HST.out.below hb).lt
      clear hb8 HCR HCT CR CT hb HST HOW
      go_upto_region 13 with (fail)
      generalize ((w7.alloc (.cells #[.slice A l.length c, .int .i64 (q' : Int), .bool (!r')] 61)).alloc (.cells #[.int .i64 t.fr, .int .i64 t.no, .int .i64 t.ki, .int .i64 t.to, .int .i64 t.am, .string (sb t.key), .string (sb t.val)] 45)) = w8 at *
      cases ok with
      | false =>
        have hbz := HBZ.out
        have hs0 : storeK (.pointer (some ⟨w.heap.size, 0, none⟩)) (.agg Z) w8 = .ok .skip w8 := by
          have hg := hst8.b0
          unfold BoxK at hg
          rw [HZ.out] at hg
          rw [storeK_eq hg HSZ.out HSZ.out HZ1.out, setK_self hg]
        have HB0 := hid hst8.b0
        have HBE := hid hst8.bel
        have HN : Hid (getK l = none) := hid (by
          unfold getK
          rw [HD.out]
          simp only
          rw [rdTxs_none (rdTxs_stop HR.out HOK.out) a4 (by omega)])
        clear hst8 how8 hrd htx hi
        go_wp2_with fail
        have hg := HB0.out
        unfold BoxK at hg
        refine bodyPost_ret (results_kb rfl _ _ _ _ _ _ rfl rfl hg (bkc_size _ bkZ_par)) rfl ?_
        exact getPost_no HN.out HBE.out
      | true =>
        obtain ⟨⟨c20, c21, c22⟩, ⟨c10, c11, c12, c13⟩, g1, g2⟩ := hst8.cells HH0.out
        have e0 := cell_blk hrd 0
        have e1 := cell_blk hrd 1
        have e2 := cell_blk hrd 2
        simp at e0 e1 e2
        have HST9 := hid (hst8.put (.slice A l.length c) (.int .i64 (q' : Int)) (.bool (!r')))
        have HOW9 := hid (((how8.set (g := w.heap.size + 1 + 1) (by omega) 0 (.slice A l.length c)).set (g := w.heap.size + 1 + 1) (by omega) 1 (.int .i64 (q' : Int))).set (g := w.heap.size + 1 + 1) (by omega) 2 (.bool (!r')))
        have htx9 := blk_other (blk_other (blk_other htx (.slice A l.length c) (i := 0) (b := w.heap.size + 1 + 1) (by omega)) (.int .i64 (q' : Int)) (i := 1) (b := w.heap.size + 1 + 1) (by omega)) (.bool (!r')) (i := 2) (b := w.heap.size + 1 + 1) (by omega)
        have l9 := loadTx_eq htx9 rfl
        have hlen : ts.length + [t].length ≤ 1000000000 := by
          have := rdTxs_len HR.out
          simp only at this
          simp only [List.length_cons, List.length_nil]
          omega
        have HTO : Hid (Txs ((((w8.setCell ⟨w.heap.size + 1 + 1, 0, none⟩ (.slice A l.length c)).setCell ⟨w.heap.size + 1 + 1, 1, none⟩ (.int .i64 (q' : Int))).setCell ⟨w.heap.size + 1 + 1, 2, none⟩ (.bool (!r'))).alloc (.cells #[.int .i64 t.fr, .int .i64 t.no, .int .i64 t.ki, .int .i64 t.to, .int .i64 t.am, .string (sb t.key), .string (sb t.val)] 45)) (.slice (some ⟨w8.heap.size, 0, none⟩) 1 1) [t]) := hid (by
          have := txs_one (((w8.setCell ⟨w.heap.size + 1 + 1, 0, none⟩ (.slice A l.length c)).setCell ⟨w.heap.size + 1 + 1, 1, none⟩ (.int .i64 (q' : Int))).setCell ⟨w.heap.size + 1 + 1, 2, none⟩ (.bool (!r'))) t #[.int .i64 t.fr, .int .i64 t.no, .int .i64 t.ki, .int .i64 t.to, .int .i64 t.am, .string (sb t.key), .string (sb t.val)] rfl
          rw [show (((w8.setCell ⟨w.heap.size + 1 + 1, 0, none⟩ (.slice A l.length c)).setCell ⟨w.heap.size + 1 + 1, 1, none⟩ (.int .i64 (q' : Int))).setCell ⟨w.heap.size + 1 + 1, 2, none⟩ (.bool (!r'))).heap.size = w8.heap.size from by simp] at this
          exact this)
        clear hst8 how8 hrd htx htx9
        go_wp2_with (at_builtin; refine wpList_append_tx rfl (.tmp 59) (.tmp 61) rfl rfl rfl (HOW9.out.alloc _) HTO.out hlen (HST9.out.alloc _).lt ?_; intro v9 w9 ho9 hg9 hv9; have HST10 := hid ((HST9.out.alloc _).grow (HOW9.out.alloc _) hg9); obtain ⟨⟨d20, d21, d22⟩, ⟨d10, d11, d12, d13⟩, f1, f2⟩ := HST10.out.cells HH0.out; clear hg9 hv9; obtain ⟨A9, n9, c9, rfl⟩ := ho9.shape3)
        have HRT : Hid (r' = true) := hid (by rw [← HR'.out]; exact (rdIs_iff HOK.out).1)
        go_roundw
        case rel =>
          refine ⟨i + 1, ts ++ [t], q', r', .slice A9 n9 c9, by omega, by go_num, hid ?_, ?_, ?_, ?_⟩
          · rw [rdTxs_succ HR.out HOK.out, HTT.out, HQ'.out, HRT.out]
          · rw [← HQ'.out]; exact rdIs_pl HOK.out
          · exact HST10.out.cell HH0.out (b' := ⟨h0, (a1 : Int), (a2 : Int), (a3 : Int), ts ++ [t]⟩) (s' := .slice A9 n9 c9) (v := .slice A9 n9 c9) 3 rfl
          · exact ho9.set (by omega) _ _
        case measure => simp [intOf]; omega
    · obtain rfl : i = a4 := by omega
      obtain ⟨SA, SN, SC, rfl⟩ := HOW.out.shape3
      cases r with
      | false =>
        have HN : Hid (getK l = none) := hid (by
          unfold getK
          rw [HD.out]
          simp only
          rw [HR.out]
          simp only
          rw [if_neg (by simp)])
        have hbz := HBZ.out
        have hs0 : storeK (.pointer (some ⟨w.heap.size, 0, none⟩)) (.agg Z) wr = .ok .skip wr := by
          have hg := HST.out.b0
          unfold BoxK at hg
          rw [HZ.out] at hg
          rw [storeK_eq hg HSZ.out HSZ.out HZ1.out, setK_self hg]
        clear hi hlt
        go_wp2_with fail
        have hg := HST.out.b0
        unfold BoxK at hg
        refine bodyPost_ret (results_kb rfl _ _ _ _ _ _ rfl rfl hg (bkc_size _ bkZ_par)) rfl ?_
        exact getPost_no HN.out HST.out.bel
      | true =>
        have hms := rdTxs_so HR.out rfl
        have HMS := hid hms.2.1
        obtain ⟨b, HBE⟩ : ∃ b : BkM, Hid ((⟨h0, (a1 : Int), (a2 : Int), (a3 : Int), ts⟩ : BkM) = b) := ⟨_, hid rfl⟩
        have HGK : Hid (getK l = if mayK b = true ∧ bytesK b = l then some b else none) := hid (by
          unfold getK
          rw [HD.out]
          simp only
          rw [HR.out]
          simp only
          rw [HBE.out]
          by_cases h : mayK b = true ∧ bytesK b = l
          · rw [if_pos h, if_pos ⟨trivial, h⟩]
          · rw [if_neg h, if_neg (fun h' => h h'.2)])
        rw [HBE.out] at HST
        have HLK : Hid (lightK b) := hid (light_of_may (by rw [← HBE.out]; exact HMS.out))
        have HBP : Hid (b.par.length = 32) := hid (by rw [← HBE.out]; exact HH0.out)
        have HBT : Hid (b.txs = ts) := hid (by rw [← HBE.out])
        have HBV : Hid (∀ W, Below wr.heap.size wr W → BkV W (.agg (bkc b (.slice SA SN SC))) b) := hid (fun W h => ⟨_, rfl, HBP.out, by rw [HBT.out]; exact HOW.out.txs.below h⟩)
        have HOT : Hid (∀ W, Below wr.heap.size wr W → OwnT (w.heap.size + 3) W (.slice SA SN SC) ts) := hid (fun W h => HOW.out.below h)
        obtain ⟨CB, HCB⟩ : ∃ C : Array Value, Hid (bkc b (.slice SA SN SC) = C) := ⟨_, hid rfl⟩
        obtain ⟨m, HM⟩ : ∃ q : Bool, Hid (mayK b = q) := ⟨_, hid rfl⟩
        have HMA : Hid (∀ W, Below wr.heap.size wr W → Calls Tryd.prog 9 #[.agg CB] W fun e w' => e = .returned (.bool m) ∧ Below W.heap.size W w') := hid (fun W h => by
          have := refMay7_any _ b W (HBV.out W h) HLK.out
          rw [HCB.out, HM.out] at this
          exact this)
        have HPT : Hid (mayK b = true → ∀ W, Below wr.heap.size wr W → Calls Tryd.prog 18 #[.agg CB] W fun e w' => ∃ x, e = .returned x ∧ Own W.heap.size w' x (bytesK b) ∧ Below W.heap.size W w') := hid (fun hm W h => by
          have := refPut7_any _ b W (HBV.out W h) hm
          rw [HCB.out] at this
          exact this)
        have HLD : Hid (∀ W, Below wr.heap.size wr W → loadK (.pointer (some ⟨w.heap.size + 1, 0, none⟩)) W = .ok (.value (.agg CB)) W) := hid (fun W h => by
          have := loadK_eq (HST.out.below h).b1 HBP.out
          rw [HCB.out] at this
          exact this)
        have l0 := HLD.out wr (Below.refl _ _)
        clear hms hi hlt HOW
        go_wp2_with fail
        refine (HMA.out wr (Below.refl _ _)).mono ?_
        rintro e w2 ⟨rfl, hb2⟩
        have HS2 := hid (HST.out.below hb2)
        have l2 := HLD.out w2 hb2
        clear l0 c20 c21 c22 c10 c11 c12 c13 g1 g2
        cases m with
        | false =>
          have HN : Hid (getK l = none) := hid (by rw [HGK.out, if_neg (by rw [HM.out]; simp)])
          have hbz := HBZ.out
          have hs0 : storeK (.pointer (some ⟨w.heap.size, 0, none⟩)) (.agg Z) w2 = .ok .skip w2 := by
            have hg := HS2.out.b0
            unfold BoxK at hg
            rw [HZ.out] at hg
            rw [storeK_eq hg HSZ.out HSZ.out HZ1.out, setK_self hg]
          clear l2
          go_wp2_with fail
          have hg := HS2.out.b0
          unfold BoxK at hg
          refine bodyPost_ret (results_kb rfl _ _ _ _ _ _ rfl rfl hg (bkc_size _ bkZ_par)) rfl ?_
          exact getPost_no HN.out HS2.out.bel
        | true =>
          go_wp2_with fail
          refine (HPT.out HM.out w2 hb2).mono ?_
          rintro e w3 ⟨x, rfl, ho3, hb3⟩
          have hb3' := hb2.trans (hb3.mono hb2.size)
          have HS3 := hid (HST.out.below hb3')
          have HB3 := hid hb3'
          clear l2 hb3 hb2
          go_wp2_with fail
          refine (HSM.out x (bytesK b) w3 HS3.out.bel ho3.byt).mono ?_
          rintro e w4 ⟨rfl, k, rfl⟩
          obtain ⟨eq, HEQ⟩ : ∃ q : Bool, Hid (decide (bytesK b = l) = q) := ⟨_, hid rfl⟩
          rw [HEQ.out]
          have hbd := below_drewN (Below.refl w3.heap.size w3) k
          have HS4 := hid (HS3.out.below hbd)
          have HB4 := hid (HB3.out.trans (hbd.mono HB3.out.size))
          clear hbd ho3 hb3'
          generalize w3.drewN k = w4 at *
          cases eq with
          | false =>
            have HN : Hid (getK l = none) := hid (by rw [HGK.out, if_neg (fun h => of_decide_eq_false HEQ.out h.2)])
            have hbz := HBZ.out
            have hs0 : storeK (.pointer (some ⟨w.heap.size, 0, none⟩)) (.agg Z) w4 = .ok .skip w4 := by
              have hg := HS4.out.b0
              unfold BoxK at hg
              rw [HZ.out] at hg
              rw [storeK_eq hg HSZ.out HSZ.out HZ1.out, setK_self hg]
            go_wp2_with fail
            have hg := HS4.out.b0
            unfold BoxK at hg
            refine bodyPost_ret (results_kb rfl _ _ _ _ _ _ rfl rfl hg (bkc_size _ bkZ_par)) rfl ?_
            exact getPost_no HN.out HS4.out.bel
          | true =>
            have HY : Hid (getK l = some b) := hid (by rw [HGK.out, if_pos ⟨HM.out, of_decide_eq_true HEQ.out⟩])
            have l4 := HLD.out w4 HB4.out
            have hg := HS4.out.b0
            have HTX := hid (HBV.out w4 HB4.out)
            have hC36 : CB.size = 36 := by rw [← HCB.out]; exact bkc_size _ HBP.out
            have hs0 : storeK (.pointer (some ⟨w.heap.size, 0, none⟩)) (.agg CB) w4 = .ok .skip (setK w4 w.heap.size CB) := by
              refine storeK_eq hg (bkc_size _ bkZ_par) hC36 ?_
              rw [← HCB.out]
              obtain ⟨s', e', _, ht'⟩ := HTX.out
              have e2 : s' = .slice SA SN SC := by
                have h1 := (bkc_tail (b := b) (s := s') HBP.out).2.2.2
                have h2 := (bkc_tail (b := b) (s := .slice SA SN SC) HBP.out).2.2.2
                injection e' with e'
                rw [e', h1] at h2
                injection h2
              rw [e2] at ht'
              exact bkc_one ht'
            have HG := hid hg
            have HC36 := hid hC36
            clear hg hC36
            go_wp2_with fail
            refine bodyPost_ret (results_kb rfl _ _ _ _ _ _ rfl rfl (setK_same HG.out) HC36.out) rfl ?_
            have hbl := setK_below (C := CB) HS4.out.bel (Nat.le_refl _)
            rw [← HCB.out] at hbl ⊢
            refine getPost_yes HY.out HBP.out ?_ hbl
            rw [HBT.out]
            exact ((HOT.out w4 HB4.out).setK (by omega)).txs
end Go.Proofs.YtekfkfpfnhoblaaDoor

/-
  tithingref06.Id: a transaction's id.
-/
namespace Go.Proofs.YtekfkfpfnhoblaaDoor
set_option maxRecDepth 20000
open Go.RowKit
attribute [local go_sem ↓] exec_load_tx

/-- A transaction's id: nought, if it may not be. -/
def idT (t : TxM) (j : Nat) : UInt8 := if mayT t = true then sumS (bytesT t) j else 0
theorem tx_agg (t : TxM) : ∃ C : Array Value, txv t = .agg C ∧ C.size = 7 ∧ C = #[.int .i64 t.fr, .int .i64 t.no, .int .i64 t.ki, .int .i64 t.to, .int .i64 t.am, .string (sb t.key), .string (sb t.val)] := ⟨_, rfl, rfl, rfl⟩

end Go.Proofs.YtekfkfpfnhoblaaDoor

/-
  Slices of bytes cut in three ways, each kept whole under a name. No function of the program.
-/
namespace Go.Proofs.YtekfkfpfnhoblaaDoor
set_option maxRecDepth 20000
open Go.RowKit

/-- What cutting comes to: kept whole. -/
noncomputable def cutH (v h : Value) (w : World) : Result Next := Sem.run Tryd.prog (execOp (fun o => match o with | .tmp 0 => v | _ => h) { dst := none, op := .slice 29 (.tmp 0) none (some (.tmp 1)) none, type := 0, pos := "", after := #[], guard := none }) w
noncomputable def cutL (v l : Value) (w : World) : Result Next := Sem.run Tryd.prog (execOp (fun o => match o with | .tmp 0 => v | _ => l) { dst := none, op := .slice 29 (.tmp 0) (some (.tmp 1)) none none, type := 0, pos := "", after := #[], guard := none }) w
noncomputable def cutLH (v l h : Value) (w : World) : Result Next := Sem.run Tryd.prog (execOp (fun o => match o with | .tmp 0 => v | .tmp 1 => l | _ => h) { dst := none, op := .slice 29 (.tmp 0) (some (.tmp 1)) (some (.tmp 2)) none, type := 0, pos := "", after := #[], guard := none }) w
theorem exec_cutH (r : Operand → Value) (x h : Operand) (dst : Option Tmp) (ty : TypeId) (pos : String) (after : Array Edge) (guard : Option (Nat × Bool)) (w : World) :
    Sem.run Tryd.prog (execOp r { dst := dst, op := .slice 29 x none (some h) none, type := ty, pos := pos, after := after, guard := guard }) w = cutH (r x) (r h) w := rfl
theorem exec_cutL (r : Operand → Value) (x l : Operand) (dst : Option Tmp) (ty : TypeId) (pos : String) (after : Array Edge) (guard : Option (Nat × Bool)) (w : World) :
    Sem.run Tryd.prog (execOp r { dst := dst, op := .slice 29 x (some l) none none, type := ty, pos := pos, after := after, guard := guard }) w = cutL (r x) (r l) w := rfl
theorem exec_cutLH (r : Operand → Value) (x l h : Operand) (dst : Option Tmp) (ty : TypeId) (pos : String) (after : Array Edge) (guard : Option (Nat × Bool)) (w : World) :
    Sem.run Tryd.prog (execOp r { dst := dst, op := .slice 29 x (some l) (some h) none, type := ty, pos := pos, after := after, guard := guard }) w = cutLH (r x) (r l) (r h) w := rfl

/-- Bytes from i on, up to k. -/
theorem RdB.sub {w : World} {A : Option Addr} {l : List UInt8} (h : RdB w A l) (i k c : Nat) (hik : i ≤ k) (hk : k ≤ l.length) (hc : l.length ≤ c) : RdB w (if c = i then A else A.map (·.add i)) ((l.drop i).take (k - i)) := fun h0 => by
  rw [List.length_take, List.length_drop] at h0
  obtain ⟨b, off, rfl, hb, hcl⟩ := h (by omega)
  rw [if_neg (by omega)]
  refine ⟨b, off + i, by rw [Option.map_some, addr_add], hb, fun j hj => ?_⟩
  rw [List.length_take, List.length_drop] at hj
  rw [Nat.add_assoc, hcl (i + j) (by omega), List.getElem_take, List.getElem_drop]
theorem sub_length {l : List UInt8} {i k : Nat} (hk : k ≤ l.length) : ((l.drop i).take (k - i)).length = k - i := by
  rw [List.length_take, List.length_drop]
  omega

theorem cut_lh (A : Option Addr) (c L i k : Nat) (hik : i ≤ k) (hk : k ≤ L) (hc : L ≤ c) : ∃ A' c', (∀ w, cutLH (.slice A L c) (.int .i64 (i : Int)) (.int .i64 (k : Int)) w = .ok (.value (.slice A' (k - i) c')) w) ∧ ∀ w l, l.length = L → Byt w (.slice A L c) l → Byt w (.slice A' (k - i) c') ((l.drop i).take (k - i)) := by
  refine ⟨if c = i then A else A.map (·.add i), c - i, fun w => ?_, fun w l hl hv => ?_⟩
  · obtain ⟨i0, hi, hz0, hz1, hz2⟩ := info_parts info_u8
    have hk4 : k ≤ c := by omega
    unfold cutLH execOp
    simp [Instr.sliceAt, Instr.slice, run_underlying under_bytes, Instr.sliceBounds, Instr.sliceBound, asIntOf, sizeOf, typeInfo, hi, hz1, hik, hk4, Sem.run_bind]
  · obtain ⟨_, h1, h2, h3⟩ := hv.at_
    have hs := sub_length (l := l) (i := i) (k := k) (by omega)
    exact ⟨_, _, by rw [hs], by omega, by omega, h3.sub i k c hik (by omega) (by omega)⟩
theorem cut_h (A : Option Addr) (c L k : Nat) (hk : k ≤ L) (hc : L ≤ c) : ∃ A' c', (∀ w, cutH (.slice A L c) (.int .i64 (k : Int)) w = .ok (.value (.slice A' k c')) w) ∧ ∀ w l, l.length = L → Byt w (.slice A L c) l → Byt w (.slice A' k c') (l.take k) := by
  refine ⟨if c = 0 then A else A.map (·.add 0), c, fun w => ?_, fun w l hl hv => ?_⟩
  · obtain ⟨i0, hi, hz0, hz1, hz2⟩ := info_parts info_u8
    have hk4 : k ≤ c := by omega
    unfold cutH execOp
    simp [Instr.sliceAt, Instr.slice, run_underlying under_bytes, Instr.sliceBounds, Instr.sliceBound, asIntOf, sizeOf, typeInfo, hi, hk4, Sem.run_bind]
  · obtain ⟨_, h1, h2, h3⟩ := hv.at_
    have hs := sub_length (l := l) (i := 0) (k := k) (by omega)
    have h4 := h3.sub 0 k c (Nat.zero_le _) (by omega) (by omega)
    rw [List.drop_zero, Nat.sub_zero] at h4 hs
    exact ⟨_, _, by rw [hs], by omega, by omega, h4⟩
theorem cut_l (A : Option Addr) (c L i : Nat) (hi : i ≤ L) (hc : L ≤ c) : ∃ A' c', (∀ w, cutL (.slice A L c) (.int .i64 (i : Int)) w = .ok (.value (.slice A' (L - i) c')) w) ∧ ∀ w l, l.length = L → Byt w (.slice A L c) l → Byt w (.slice A' (L - i) c') (l.drop i) := by
  refine ⟨if c = i then A else A.map (·.add i), c - i, fun w => ?_, fun w l hl hv => ?_⟩
  · obtain ⟨i0, hi0, hz0, hz1, hz2⟩ := info_parts info_u8
    unfold cutL execOp
    simp [Instr.sliceAt, Instr.slice, run_underlying under_bytes, Instr.sliceBounds, Instr.sliceBound, asIntOf, sizeOf, typeInfo, hi0, hz1, hi, Sem.run_bind]
  · obtain ⟨_, h1, h2, h3⟩ := hv.at_
    have hs := sub_length (l := l) (i := i) (k := l.length) (by omega)
    have h4 := h3.sub i l.length c (by omega) (by omega) (by omega)
    have e : (l.drop i).take (l.length - i) = l.drop i := List.take_of_length_le (by rw [List.length_drop]; omega)
    rw [e] at h4 hs
    exact ⟨_, _, by rw [hs, hl], by omega, by omega, h4⟩

/-- A list in a new block: its block and its cells. -/
theorem new_cell (w : World) (C : Array Value) (T : TypeId) (i : Nat) (v : Value) (h : C[i]? = some v) : (w.alloc (.cells C T)).cell? ⟨w.heap.size, i, none⟩ = some v := by
  rw [cell_of_row _ _ _ _ _ (0, 0) (heap_alloc_new w _)]
  exact h
theorem new_cell_drew (w : World) (C : Array Value) (T : TypeId) (i : Nat) (v : Value) (h : C[i]? = some v) : (w.alloc (.cells C T)).drew.cell? ⟨w.heap.size, i, none⟩ = some v := new_cell w C T i v h
theorem cut_three (l : List UInt8) {i k : Nat} (hik : i ≤ k) : l.take i ++ ((l.drop i).take (k - i) ++ l.drop k) = l := by
  have e : l.drop k = (l.drop i).drop (k - i) := by rw [List.drop_drop]; congr 1; omega
  rw [e, List.take_append_drop, List.take_append_drop]

end Go.Proofs.YtekfkfpfnhoblaaDoor

/-
  Slices of bytes cut in three ways, each kept whole under a name; the sum of one, two and three parts. And arrays that are the same.
-/
namespace Go.Proofs.YtekfkfpfnhoblaaDoor
set_option maxRecDepth 20000
open Go.RowKit

/-- A type's number under a name: a load of a long array that stands several times in one region is then told by an equation. -/
def tyHide (T : TypeId) (_ : Nat) : TypeId := T
theorem exec_load_hide (T : TypeId) (k : Nat) (r : Operand → Value) (x : Operand) (dst : Option Tmp) (ty : TypeId) (pos : String) (after : Array Edge) (guard : Option (Nat × Bool)) (w : World) :
    Sem.run Tryd.prog (execOp r { dst := dst, op := .load (tyHide T k) x, type := ty, pos := pos, after := after, guard := guard }) w = loadA (tyHide T k) (r x) w := rfl
theorem tyHide_load {T : TypeId} {k : Nat} (h : T = k) (x : Operand) : Op.load k x = Op.load (tyHide T k) x := by
  unfold tyHide
  rw [h]
theorem loadA_hide {T k : TypeId} {E : TypeId} {n : Nat} {z : Value} (h : T = k) (H : ArrT k E n z) {w : World} {g N o : Nat} {f f' : Nat → Value} {t : TypeId} (hg : Blk w g N f t) (ho : o + n ≤ N) (e : ∀ j, j < n → f (o + j) = f' j) :
    loadA (tyHide T k) (.pointer (some ⟨g, o, none⟩)) w = .ok (.value (.agg (fcells n f'))) w := by
  unfold tyHide
  rw [h]
  exact loadA_eq H hg ho e

/-- The sum of two parts, and of three, that lie in a block. -/
theorem of_two (v0 v1 : Value) (l0 l1 : List UInt8) (gp c : Nat) (w : World) (hg : gp < w.heap.size) (h0 : w.cell? ⟨gp, 0, none⟩ = some v0) (h1 : w.cell? ⟨gp, 1, none⟩ = some v1) (b0 : Byt w v0 l0) (b1 : Byt w v1 l1)
    {l : List UInt8} (hl : l0 ++ l1 = l) (hs : l.length ≤ 1000000) (hK : Kst 1 w) :
    Calls Tryd.prog 26 #[.slice (some ⟨gp, 0, none⟩) 2 c] w fun e w' => e = .returned (.agg (fcells 32 fun j => bcell (sumS l j))) ∧ Below w.heap.size w w' := by
  have e : ([l0, l1] : List (List UInt8)).flatten = l := by simp [hl]
  have h := of_any [l0, l1] (fun j => if j = 0 then v0 else v1) gp 2 c w rfl hg (fun j hj => by
    obtain rfl | rfl : j = 0 ∨ j = 1 := by omega
    · exact h0
    · exact h1) (fun j hj => by
    have hj2 : j < 2 := hj
    obtain rfl | rfl : j = 0 ∨ j = 1 := by omega
    · exact b0
    · exact b1) (by rw [e]; omega) (by omega) hK
  rw [e] at h
  exact h
theorem of_three (v0 v1 v2 : Value) (l0 l1 l2 : List UInt8) (gp c : Nat) (w : World) (hg : gp < w.heap.size) (h0 : w.cell? ⟨gp, 0, none⟩ = some v0) (h1 : w.cell? ⟨gp, 1, none⟩ = some v1) (h2 : w.cell? ⟨gp, 2, none⟩ = some v2) (b0 : Byt w v0 l0) (b1 : Byt w v1 l1) (b2 : Byt w v2 l2)
    {l : List UInt8} (hl : l0 ++ (l1 ++ l2) = l) (hs : l.length ≤ 1000000) (hK : Kst 1 w) :
    Calls Tryd.prog 26 #[.slice (some ⟨gp, 0, none⟩) 3 c] w fun e w' => e = .returned (.agg (fcells 32 fun j => bcell (sumS l j))) ∧ Below w.heap.size w w' := by
  have e : ([l0, l1, l2] : List (List UInt8)).flatten = l := by simp [hl]
  have h := of_any [l0, l1, l2] (fun j => if j = 0 then v0 else if j = 1 then v1 else v2) gp 3 c w rfl hg (fun j hj => by
    obtain rfl | rfl | rfl : j = 0 ∨ j = 1 ∨ j = 2 := by omega
    · exact h0
    · exact h1
    · exact h2) (fun j hj => by
    have hj2 : j < 3 := hj
    obtain rfl | rfl | rfl : j = 0 ∨ j = 1 ∨ j = 2 := by omega
    · exact b0
    · exact b1
    · exact b2) (by rw [e]; omega) (by omega) hK
  rw [e] at h
  exact h

theorem hash_same (D : Array Value) (f : Nat → UInt8) (h : fcells 32 (fun j => bcell (f j)) = D) (w : World) : (Op.equalIn 10000 23 (.agg D) (.agg D)).run Tryd.prog w = .ok true w := by
  subst h
  exact arrH.eq_self (k := .u8) (by kernel_rfl) (a := fun i => ((f i).toNat : Int)) (fun _ _ => rfl) w
end Go.Proofs.YtekfkfpfnhoblaaDoor

/-
  TxPuts: which transactions there may be, their bytes and ids, and that what is put is read: the law's walk, from what tx's functions tell.
-/
namespace Go.Proofs.YtekfkfpfnhoblaaDoor
set_option maxRecDepth 20000
open Go.RowKit
attribute [local go_sem ↓] exec_load_tx

def TxCheckOk : Prop := ∀ (t : TxM) (w : World), lightT t → Calls Tryd.prog 62 #[txv t] w fun e w' => e = .returned (.int .i64 (if mayT t = true then 0 else 1)) ∧ Below w.heap.size w w'
theorem eq_tx (t : TxM) (w : World) : (Op.equalIn 10000 45 (txv t) (txv t)).run Tryd.prog w = .ok true w := by
  unfold txv
  go_simp
def litT (t : TxM) : Bool := decide (t.key.length ≤ 100) && decide (t.val.length ≤ 400)

set_option maxHeartbeats 1600000 in
theorem light6_any (t : TxM) (w : World) (hk : t.key.length ≤ maxLen) (hv : t.val.length ≤ maxLen) :
    Calls Tryd.prog 20 #[txv t] w fun e w' => e = .returned (.bool (litT t)) ∧ Below w.heap.size w w' := by
  obtain ⟨fr, no, ki, tu, am, key, val⟩ := t
  simp only at hk hv
  unfold maxLen at hk hv
  have hks := sb_size key
  have hvs := sb_size val
  unfold txv
  simp only
  obtain ⟨s, HS⟩ : ∃ s : ByteArray, Hid (sb key = s) := ⟨_, hid rfl⟩
  obtain ⟨u, HU⟩ : ∃ s : ByteArray, Hid (sb val = s) := ⟨_, hid rfl⟩
  obtain ⟨n, HN⟩ : ∃ n : Nat, Hid (key.length = n) := ⟨_, hid rfl⟩
  obtain ⟨m, HM⟩ : ∃ n : Nat, Hid (val.length = n) := ⟨_, hid rfl⟩
  rw [HS.out] at hks ⊢
  rw [HU.out] at hvs ⊢
  rw [HN.out] at hks hk
  rw [HM.out] at hvs hv
  obtain ⟨q, HQ⟩ : ∃ b : Bool, Hid (litT ⟨fr, no, ki, tu, am, key, val⟩ = b) := ⟨_, hid rfl⟩
  rw [HQ.out]
  go_enter Tryd.func20, Tryd.ntmps20
  go_wp2_with fail
  all_goals
    go_ret
    refine ⟨?_, (Below.refl _ _).alloc (Nat.le_refl _) _⟩
    refine congrArg (fun b => Ending.returned (Value.bool b)) ?_
    rw [← HQ.out]
    unfold litT
    simp only [HN.out, HM.out]
  all_goals grind

end Go.Proofs.YtekfkfpfnhoblaaDoor

/-
  What block's functions must tell; and which blocks are light.
-/
namespace Go.Proofs.YtekfkfpfnhoblaaDoor
set_option maxRecDepth 20000
open Go.RowKit
attribute [local go_sem ↓] exec_load_tx

/-- Are all its texts short, and are there few? -/
def litK (b : BkM) : Bool := decide (b.txs.length ≤ 20) && b.txs.all litT
theorem litK_len {b : BkM} (h : litK b = true) : b.txs.length ≤ 20 := by
  unfold litK at h
  rw [Bool.and_eq_true] at h
  exact of_decide_eq_true h.1
theorem litK_light {b : BkM} (h : litK b = true) : ∀ t ∈ b.txs, t.key.length ≤ 100 ∧ t.val.length ≤ 400 := by
  unfold litK at h
  rw [Bool.and_eq_true] at h
  intro t ht
  have := List.all_eq_true.1 h.2 t ht
  unfold litT at this
  simpa using this
theorem lightK_of {b : BkM} (h : litK b = true) : lightK b := fun t ht => by
  have := litK_light h t ht
  omega

/-- The value that is told is a block; where it has transactions, they lie in memory of their own. -/
def BkNew (B : Nat) (w : World) (x : Value) (b : BkM) : Prop := ∃ s, x = .agg (bkc b s) ∧ b.par.length = 32 ∧ Txs w s b.txs ∧ (0 < b.txs.length → OwnT B w s b.txs)
theorem BkNew.bk {B : Nat} {w : World} {x : Value} {b : BkM} (h : BkNew B w x b) : BkV w x b := by
  obtain ⟨s, rfl, h1, h2, _⟩ := h
  exact ⟨s, rfl, h1, h2⟩

def BkCheckOk : Prop := ∀ (v : Value) (b : BkM) (w : World), BkV w v b → lightK b → Calls Tryd.prog 10 #[v] w fun e w' => e = .returned (.int .i64 (if mayK b = true then 0 else 1)) ∧ Below w.heap.size w w'
def BkPutOk : Prop := ∀ (v : Value) (b : BkM) (w : World), BkV w v b → lightK b →
  Calls Tryd.prog 8 #[v] w fun e w' => ∃ x, e = .returned (.tuple #[x, .int .i64 (if mayK b = true then 0 else 1)]) ∧ Byt w' x (if mayK b = true then bytesK b else []) ∧ Below w.heap.size w w'
def BkGetOk : Prop := ∀ (v : Value) (l : List UInt8) (w : World), Byt w v l → l.length ≤ 1000000 →
  Calls Tryd.prog 16 #[v] w fun e w' => ∃ x, e = .returned (.tuple #[x, .int .i64 (if isK l = true then 0 else 2)]) ∧ BkV w' x (gotK l) ∧ Below w.heap.size w w'
def BkHashOk : Prop := ∀ (v : Value) (b : BkM) (w : World), BkV w v b → lightK b → Kst 1 w → Calls Tryd.prog 11 #[v] w fun e w' => e = .returned (.agg (fcells 32 fun j => bcell (hashK b j))) ∧ Below w.heap.size w w'
def BkFirstOk : Prop := ∀ (w : World), Calls Tryd.prog 21 #[] w fun e w' => ∃ x, e = .returned x ∧ BkV w' x bkZ ∧ Below w.heap.size w w'
def BkSameOk : Prop := ∀ (va vb : Value) (a b : BkM) (w : World), BkV w va a → BkV w vb b → Calls Tryd.prog 13 #[va, vb] w fun e w' => e = .returned (.bool (sameK a b)) ∧ Below w.heap.size w w'
def BkCopyOk : Prop := ∀ (v : Value) (b : BkM) (w : World), BkV w v b → b.txs.length ≤ 1000 → Calls Tryd.prog 15 #[v] w fun e w' => ∃ x, e = .returned x ∧ BkNew w.heap.size w' x b ∧ Below w.heap.size w w'

set_option maxHeartbeats 1600000 in
theorem light7_any (v : Value) (b : BkM) (w : World) (hv : BkV w v b) (hlk : ∀ t ∈ b.txs, t.key.length ≤ maxLen ∧ t.val.length ≤ maxLen) :
    Calls Tryd.prog 6 #[v] w fun e w' => e = .returned (.bool (litK b)) ∧ Below w.heap.size w w' := by
  obtain ⟨s, rfl, hp, ht⟩ := hv
  have hb0 : Below w.heap.size w (w.alloc (.cells (bkc b s) 26)) := (Below.refl _ _).alloc (Nat.le_refl _) _
  have hA := BoxK.new w b s
  have ht0 := ht.below hb0
  obtain ⟨A, c, rfl⟩ := ht.shape
  obtain ⟨C, HC⟩ : ∃ C : Array Value, Hid (bkc b (.slice A b.txs.length c) = C) := ⟨_, hid rfl⟩
  obtain ⟨L, HL⟩ : ∃ n : Nat, Hid (b.txs.length = n) := ⟨_, hid rfl⟩
  obtain ⟨ans, HAN⟩ : ∃ q : Bool, Hid (litK b = q) := ⟨_, hid rfl⟩
  have hlen := ht.len
  rw [HL.out] at hlen
  unfold maxLen at hlen
  rw [HAN.out, HC.out]
  rw [HC.out] at hA hb0 ht0
  rw [HL.out] at hA ht0
  have HLK := hid hlk
  clear ht hlk
  go_enter Tryd.func6, Tryd.ntmps6
  go_upto_region 1 with (fail)
  generalize (w.alloc (.cells C 26)) = w0 at *
  have HA := hid hA
  have HT := hid ht0
  have hl0 := hA.lt
  clear hA ht0
  go_wp2_with fail
  go_loopw [3] (fun si wr => ∃ i : Nat, i ≤ L ∧ i ≤ 21 ∧ si = .int .i64 i ∧ Hid (∀ j (h : j < b.txs.length), j < i → litT b.txs[j] = true) ∧ Below w0.heap.size w0 wr) (fun si _ => L - (intOf si).toNat)
  case atStart => exact ⟨0, Nat.zero_le _, Nat.zero_le _, rfl, hid (fun j _ h => absurd h (by omega)), Below.refl _ _⟩
  case round =>
    obtain ⟨i, hi, hi21, rfl, HB, hbr⟩ := hrel
    have hBr := hb0.trans (hbr.mono hb0.size)
    have k4 := ((HA.out.below hbr hl0).cells hp).2.2.2
    by_cases hlt : i < L ∧ i ≤ 20
    · obtain ⟨hlt, h20⟩ := hlt
      have hil : i < b.txs.length := by rw [HL.out]; exact hlt
      obtain ⟨ba, oa, rfl, hba, hcla⟩ := (HT.out.below hbr).at_.2.2.2 (by omega)
      have hI : (i : Int) < (L : Int) := by omega
      have hJ : (i : Int) ≤ 20 := by omega
      have l1 : loadTx (.pointer (some ⟨ba, oa + i * 7, none⟩)) wr = .ok (.value (txv b.txs[i])) wr := loadTx_mid (hcla i hil)
      have HMT : Hid (∀ W, Calls Tryd.prog 20 #[txv b.txs[i]] W fun e w' => e = .returned (.bool (litT b.txs[i])) ∧ Below W.heap.size W w') := hid (fun W => light6_any _ W (HLK.out _ (List.getElem_mem hil)).1 (HLK.out _ (List.getElem_mem hil)).2)
      obtain ⟨X, HX⟩ : ∃ C : Array Value, Hid ((tcl b.txs[i]).toArray = C) := ⟨_, hid rfl⟩
      obtain ⟨m, HM⟩ : ∃ q : Bool, Hid (litT b.txs[i] = q) := ⟨_, hid rfl⟩
      rw [txv_tcl, HX.out] at l1
      rw [txv_tcl, HX.out, HM.out] at HMT
      clear hcla
      go_wp2_with fail
      refine (HMT.out wr).mono ?_
      rintro e w2 ⟨rfl, hb2⟩
      have hbr2 := hbr.trans (hb2.mono hbr.size)
      have hB2 := hBr.trans (hb2.mono hBr.size)
      clear l1 k4
      cases m with
      | false =>
        go_wp2_with fail
        go_ret
        have e : ans = false := by
          rw [← HAN.out]
          unfold litK
          have : b.txs.all litT = false := by
            rw [List.all_eq_false]
            exact ⟨_, List.getElem_mem hil, by simp [HM.out]⟩
          rw [this, Bool.and_false]
        subst e
        exact ⟨rfl, hB2⟩
      | true =>
        go_wp2_with fail
        go_roundw
        case rel =>
          refine ⟨i + 1, by omega, by omega, by go_num, hid (fun j h hj => ?_), hbr2⟩
          by_cases hji : j < i
          · exact HB.out j h hji
          · obtain rfl : j = i := by omega
            exact HM.out
        case measure => simp [intOf]; omega
    · have HE : Hid (ans = decide ((L : Int) ≤ 20)) := hid (by
        rw [← HAN.out]
        unfold litK
        rw [HL.out]
        by_cases h20 : L ≤ 20
        · have hiL : i = L := by omega
          have : b.txs.all litT = true := by
            rw [List.all_eq_true]
            intro t ht
            obtain ⟨j, hj, rfl⟩ := List.getElem_of_mem ht
            exact HB.out j hj (by have := HL.out; omega)
          rw [this, decide_eq_true h20, decide_eq_true (by omega)]
          rfl
        · rw [decide_eq_false h20, decide_eq_false (by omega)]
          rfl)
      clear HB
      by_cases hI : (i : Int) < (L : Int)
      · have hJ : ¬ (i : Int) ≤ 20 := by omega
        have h20 : ¬ (L : Int) ≤ 20 := by omega
        obtain rfl : ans = false := by rw [HE.out]; exact decide_eq_false h20
        clear hlt
        go_wp2_with fail
        go_ret
        exact ⟨rfl, hBr⟩
      · clear hlt
        by_cases h20 : (L : Int) ≤ 20
        · obtain rfl : ans = true := by rw [HE.out]; exact decide_eq_true h20
          go_wp2_with fail
          go_ret
          exact ⟨rfl, hBr⟩
        · obtain rfl : ans = false := by rw [HE.out]; exact decide_eq_false h20
          go_wp2_with fail
          go_ret
          exact ⟨rfl, hBr⟩
end Go.Proofs.YtekfkfpfnhoblaaDoor
