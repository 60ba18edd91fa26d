/-
  MgCodeRead: what each of them says stands at its head.
-/
import Derived.BigQuiet
import Derived.Deep.DeepCutAuto
import Derived.Deep.QuietTactic
import Derived.Deep.RegionHeld3
import Derived.Deep.RegionWith
import Derived.LaidMore
import Derived.Laws.IdiomCopy
import Derived.Lib.LaidTab
import Derived.LoopTactic
import Derived.MakeChecks
import Derived.OpenShut
import Derived.Outline
import Derived.StillTailTactics
import Derived.Stop.Joined
import Derived.Stop.LaidErr
import Derived.Test.YtjemfmbmlmogcaaGreatBs22
import Derived.Test.YtjemfmbmlmogcaaGreatBs23
import Derived.Test.YtjemfmbmlmogcaaGreatBs24
import Derived.Test.YtjemfmbmlmogcaaGreatBs2
import Derived.Test.YtjemfmbmlmogcaaGreatBs12
import Derived.Test.YtjemfmbmlmogcaaGreatBs13
import Derived.Test.YtjemfmbmlmogcaaGreatBs14
import Derived.Test.YtjemfmbmlmogcaaGreatBs6
import Derived.Test.YtjemfmbmlmogcaaGreatBs11
import Derived.Test.YtjemfmbmlmogcaaGreatBs10
import Derived.Test.YtjemfmbmlmogcaaGreatBs8
import Derived.Test.YtjemfmbmlmogcaaGreatBs7
import Derived.Test.YtjemfmbmlmogcaaGreatBs9
import Derived.Test.YtjemfmbmlmogcaaGreatBs18
import Derived.Test.YtjemfmbmlmogcaaGreatBs19
import Derived.Test.YtjemfmbmlmogcaaGreatBs20
import Derived.Test.YtjemfmbmlmogcaaGreatBs3
import Derived.Test.YtjemfmbmlmogcaaGreatBs27
import Derived.Test.YtjemfmbmlmogcaaGreatBs25
import Derived.Test.YtjemfmbmlmogcaaGreatBs1
import Derived.Test.YtjemfmbmlmogcaaGreatBs5
namespace Go.Proofs.YtjemfmbmlmogcaaGreat
set_option maxRecDepth 20000
open Go.RowKit
attribute [local go_sem ↓] exec_load_mg exec_alloc_mg exec_store_mg exec_alloc_pt exec_store_pt
structure OwnM (B : Nat) (w : World) (m : MgM) (s1 s2 s3 : Value) : Prop where
  h1 : OwnE scl 33 111 B w s1 m.cc.sg
  h2 : OwnE icl 1 3 B w s2 m.xx.fr
  h3 : Txs w s3 m.kk.txs
  h4 : 0 < m.kk.txs.length → OwnT B w s3 m.kk.txs
theorem OwnM.of {B : Nat} {w : World} {m : MgM} {s1 s2 s3 : Value} (h1 : (m.cc.sg = [] ∧ s1 = .slice none 0 0) ∨ OwnE scl 33 111 B w s1 m.cc.sg) (h2 : (m.xx.fr = [] ∧ s2 = .slice none 0 0) ∨ OwnE icl 1 3 B w s2 m.xx.fr)
    (h3 : (m.kk.txs = [] ∧ s3 = .slice none 0 0) ∨ (Txs w s3 m.kk.txs ∧ (0 < m.kk.txs.length → OwnT B w s3 m.kk.txs))) : OwnM B w m s1 s2 s3 := by
  refine ⟨?_, ?_, ?_, ?_⟩
  · rcases h1 with ⟨e, rfl⟩ | h
    · rw [e]; exact OwnE.nil _ _
    · exact h
  · rcases h2 with ⟨e, rfl⟩ | h
    · rw [e]; exact OwnE.nil _ _
    · exact h
  · rcases h3 with ⟨e, rfl⟩ | h
    · rw [e]; exact Txs.nil _
    · exact h.1
  · rcases h3 with ⟨e, rfl⟩ | h
    · rw [e]; exact fun _ => OwnT.nil _ _
    · exact h.2
theorem txs_kept {B k : Nat} {w w' : World} {s : Value} {L : List TxM} (h3 : Txs w s L) (h4 : 0 < L.length → OwnT B w s L) (hg : w.grownBy w' (some k)) (hk : k < B) : Txs w' s L ∧ (0 < L.length → OwnT B w' s L) := by
  refine ⟨?_, fun h => (h4 h).far hg hk⟩
  by_cases h : 0 < L.length
  · exact ((h4 h).far hg hk).txs
  · obtain ⟨A, c, e, i1, i2, _⟩ := h3
    exact ⟨A, c, e, i1, i2, fun h0 => absurd h0 h⟩
theorem OwnM.far {B k : Nat} {w w' : World} {m : MgM} {s1 s2 s3 : Value} (h : OwnM B w m s1 s2 s3) (hg : w.grownBy w' (some k)) (hk : k < B) : OwnM B w' m s1 s2 s3 :=
  ⟨h.h1.far hg hk, h.h2.far hg hk, (txs_kept h.h3 h.h4 hg hk).1, (txs_kept h.h3 h.h4 hg hk).2⟩
theorem OwnM.more {B B' : Nat} {w : World} {m : MgM} {s1 s2 s3 : Value} (h : OwnM B w m s1 s2 s3) (hB : B' ≤ B) : OwnM B' w m s1 s2 s3 := ⟨h.h1.more hB, h.h2.more hB, h.h3, fun h0 => (h.h4 h0).more hB⟩
theorem OwnM.els {B : Nat} {w : World} {m : MgM} {s1 s2 s3 : Value} (h : OwnM B w m s1 s2 s3) (ho : m.Ok) : Els scl 33 w s1 m.cc.sg ∧ Els icl 1 w s2 m.xx.fr ∧ Txs w s3 m.kk.txs := ⟨h.h1.els eltSg ho.cc.sg, h.h2.els eltIc (fun _ _ => trivial), h.h3⟩
theorem setMg_grown2 (w : World) (g : Nat) (X : Array Value) : w.grownBy (setMg w g X) (some g) := ⟨rfl, rfl, rfl, by rw [setMg_size]; exact Nat.le_refl _, fun k _ hk => setMg_other w X (fun e => hk (by rw [e]))⟩
structure MrSt (w0 w : World) (g : Nat) (l : List UInt8) (p : Nat) (r : Bool) (m : MgM) (s1 s2 s3 : Value) : Prop where
  lt : g < w0.heap.size
  gr : w0.grownBy w (some g)
  rd : Rdr w g l p r
  b0 : BoxM w w0.heap.size mgZ (.slice none 0 0) (.slice none 0 0) (.slice none 0 0)
  b1 : BoxM w (w0.heap.size + 1) m s1 s2 s3
section
variable {w0 w w' : World} {g : Nat} {l : List UInt8} {p : Nat} {r : Bool} {m : MgM} {s1 s2 s3 : Value}
theorem MrSt.new (h : Rdr w0 g l p r) (Z : Array Value) (hZ : mgc mgZ (.slice none 0 0) (.slice none 0 0) (.slice none 0 0) = Z) : MrSt w0 ((w0.alloc (.cells Z 38)).alloc (.cells Z 38)) g l p r mgZ (.slice none 0 0) (.slice none 0 0) (.slice none 0 0) := by
  subst hZ
  have hb : Below w0.heap.size w0 ((w0.alloc (.cells (mgc mgZ (.slice none 0 0) (.slice none 0 0) (.slice none 0 0)) 38)).alloc (.cells (mgc mgZ (.slice none 0 0) (.slice none 0 0) (.slice none 0 0)) 38)) := ((Below.refl _ _).alloc (Nat.le_refl _) _).alloc (by simp) _
  exact ⟨h.lt, grown_of_below hb _, h.below hb, heap1 w0 _ _, heap2 w0 _ _⟩
theorem MrSt.grow (h : MrSt w0 w g l p r m s1 s2 s3) {p' : Nat} {r' : Bool} (hr : Rdr w' g l p' r') (hg : w.grownBy w' (some g)) : MrSt w0 w' g l p' r' m s1 s2 s3 := by
  have h0 := h.b0.lt
  have h1 := h.b1.lt
  have hlt := h.lt
  exact ⟨hlt, h.gr.trans hg, hr, (hg.block _ h0 (fun e => by injection e with e; omega)).trans h.b0, (hg.block _ h1 (fun e => by injection e with e; omega)).trans h.b1⟩
theorem MrSt.below (h : MrSt w0 w g l p r m s1 s2 s3) (hb : Below w.heap.size w w') : MrSt w0 w' g l p r m s1 s2 s3 := h.grow (h.rd.below hb) (grown_of_below hb _)
theorem MrSt.cell (h : MrSt w0 w g l p r m s1 s2 s3) {n : MgM} {v : Value} (i : Nat) (e : (mgc m s1 s2 s3).setIfInBounds i v = mgc n s1 s2 s3) : MrSt w0 (w.setCell ⟨w0.heap.size + 1, i, none⟩ v) g l p r n s1 s2 s3 := by
  have hlt := h.lt
  refine ⟨hlt, rcGrown_set h.gr _ _ (Nat.le_succ _), h.rd.apart (grown_set _ _ _ _) h.b1 (by decide) (by omega), blk_other h.b0 _ (by omega), ?_⟩
  have := set_blk h.b1 i v
  rw [e] at this
  exact this
theorem MrSt.att (h : MrSt w0 w g l p r m s1 s2 s3) {n : MgM} {t1 t2 t3 : Value} (hg : w.grownBy w' (some (w0.heap.size + 1))) (hb : BoxM w' (w0.heap.size + 1) n t1 t2 t3) : MrSt w0 w' g l p r n t1 t2 t3 := by
  have hlt := h.lt
  exact ⟨hlt, rcGrown_past h.gr hg (Nat.le_succ _), h.rd.apart hg h.b1 (by decide) (by omega), (hg.block _ h.b0.lt (fun e => by injection e with e; omega)).trans h.b0, hb⟩
theorem MrSt.ints (h : MrSt w0 w g l p r m s1 s2 s3) : (w.cell? ⟨w0.heap.size + 1, 0, none⟩ = some (.int .i64 m.ki) ∧ w.cell? ⟨w0.heap.size + 1, 1, none⟩ = some (.int .i64 m.fr) ∧ w.cell? ⟨w0.heap.size + 1, 2, none⟩ = some (.int .i64 m.tu)) ∧ (∀ i, w.frozen? ⟨w0.heap.size + 1, i, none⟩ = false) := ⟨h.b1.ints, h.b1.free⟩
end
theorem mgc_ki2 (m : MgM) (s1 s2 s3 : Value) (n : Int) : (mgc m s1 s2 s3).setIfInBounds 0 (.int .i64 n) = mgc { m with ki := n } s1 s2 s3 := by
  unfold mgc mgl
  rw [List.setIfInBounds_toArray]
  rfl
theorem mgc_fr2 (m : MgM) (s1 s2 s3 : Value) (n : Int) : (mgc m s1 s2 s3).setIfInBounds 1 (.int .i64 n) = mgc { m with fr := n } s1 s2 s3 := by
  unfold mgc mgl
  rw [List.setIfInBounds_toArray]
  rfl
theorem mgc_tu2 (m : MgM) (s1 s2 s3 : Value) (n : Int) : (mgc m s1 s2 s3).setIfInBounds 2 (.int .i64 n) = mgc { m with tu := n } s1 s2 s3 := by
  unfold mgc mgl
  rw [List.setIfInBounds_toArray]
  rfl
def MgN (B : Nat) (w : World) (v : Value) (m : MgM) : Prop := ∃ s1 s2 s3, v = .agg (mgc m s1 s2 s3) ∧ m.Ok ∧ OwnM B w m s1 s2 s3
def MrPost (w : World) (g : Nat) (l : List UInt8) (e : Ending) (w' : World) : Prop := ∃ x, e = .returned x ∧ MgN w.heap.size w' x (rawM l) ∧ (∃ q s, Rdr w' g l q s ∧ EndM l q s) ∧ w.grownBy w' (some g)
theorem mr_fin {w W : World} {g : Nat} {l : List UInt8} {q : Nat} {s : Bool} {m : MgM} {t1 t2 t3 : Value} (h : MrSt w W g l q s m t1 t2 t3) (ho : m.Ok) (hw : OwnM (w.heap.size + 2) W m t1 t2 t3) (hr : rawM l = m) (he : EndM l q s) :
    ∃ X : Array Value, X.size = 349 ∧ loadMg (.pointer (some ⟨w.heap.size + 1, 0, none⟩)) W = .ok (.value (.agg X)) W ∧ storeMg (.pointer (some ⟨w.heap.size, 0, none⟩)) (.agg X) W = .ok .skip (setMg W w.heap.size X) ∧ (setMg W w.heap.size X).heap[w.heap.size]? = some (.cells X 38 (0, 0)) ∧ MrPost w g l (.returned (.agg X)) (setMg W w.heap.size X) := by
  have hlt := h.lt
  obtain ⟨l1, l2, l3⟩ := hw.els ho
  have hg : W.grownBy (setMg W w.heap.size (mgc m t1 t2 t3)) (some w.heap.size) := setMg_grown2 _ _ _
  have hb0 := h.b0
  unfold BoxM at hb0
  refine ⟨mgc m t1 t2 t3, mgc_size _ _ _ ho, loadMg_row h.b1 (mgc_size _ _ _ ho), storeMg_eq hb0 (mgc_size _ _ _ mgZ_ok) (mgc_size _ _ _ ho) (mgc_one l1 l2 l3), setMg_same hb0, _, rfl, ⟨_, _, _, by rw [hr], by rw [hr]; exact ho, ?_⟩, ⟨q, s, h.rd.apart hg hb0 (by decide) (by omega), he⟩, rcGrown_past h.gr hg (Nat.le_refl _)⟩
  rw [hr]
  exact (hw.far hg (by omega)).more (by omega)
set_option maxHeartbeats 12800000 in
theorem mgRead_any (g : Nat) (l : List UInt8) (w : World) (hr : Rdr w g l 0 true) (hl : l.length ≤ 1000000) : Calls Tryz.prog 36 #[.pointer (some ⟨g, 0, none⟩)] w (MrPost w g l) := by
  have HU := hid (fun p r W (h : Rdr W g l p r) m (h1 : -9223372036854775808 ≤ m) (h2 : m ≤ 9223372036854775807) => upto_any g l p r m W h (by omega) h1 h2)
  have HH := hid (fun p r W (h : Rdr W g l p r) => rhash_any g l p r W h (by omega))
  have HT := hid (fun p r W (h : Rdr W g l p r) => rtext_any g l p r W h (by omega))
  have HR8 := hid (fun p r W (h : Rdr W g l p r) => atRead_ok g l p r W h hl)
  have HR9 := hid (fun p r W (h : Rdr W g l p r) => ctRead_any g l p r W h hl)
  have HR10 := hid (fun p r W (h : Rdr W g l p r) => acRead_any g l p r W h hl)
  have HR6 := hid (fun p r W (h : Rdr W g l p r) => txRead_ok g l p r W h hl)
  obtain ⟨Z, HZ⟩ : ∃ C : Array Value, Hid (mgc mgZ (.slice none 0 0) (.slice none 0 0) (.slice none 0 0) = C) := ⟨_, hid rfl⟩
  have hal : ∀ W, allocMg W = .ok (.value (.pointer (some ⟨W.heap.size, 0, none⟩))) (W.alloc (.cells Z 38)) := fun W => by rw [← HZ.out]; exact allocMg_eq W
  have hst := MrSt.new hr Z HZ.out
  have hsz : (w.alloc (.cells Z 38)).heap.size = w.heap.size + 1 := by simp
  clear hr hl
  go_enter Tryz.func36, Tryz.ntmps36
  go_upto_region 2 with (fail)
  generalize ((w.alloc (.cells Z 38)).alloc (.cells Z 38)) = w0 at *
  clear hal
  try rw [hsz]
  clear hsz
  obtain ⟨⟨k0, k1, k2⟩, g1⟩ := hst.ints
  have HST := hid hst
  clear hst
  go_wp2_with fail
  obtain ⟨a1, p1, r1, HA1⟩ : ∃ x q s, Hid (rdUpto 10 l 0 true = (x, q, s)) := ⟨_, _, _, hid rfl⟩
  have C := HU.out 0 true _ (HST.out).rd 10 (by omega) (by omega)
  rw [HA1.out] at C
  refine C.mono ?_
  clear C
  rintro e w1 ⟨rfl, hrd, hgr⟩
  have hst : MrSt w w1 g l p1 r1 (mgZ : MgM) (.slice none 0 0) (.slice none 0 0) (.slice none 0 0) := (HST.out).grow hrd hgr
  clear hrd hgr HST k0 k1 k2 g1
  obtain ⟨⟨k0, k1, k2⟩, g1⟩ := hst.ints
  have HST := hid hst
  clear hst
  go_wp2_with fail
  obtain ⟨a2, p2, r2, HA2⟩ : ∃ x q s, Hid (rdUpto 21 l p1 r1 = (x, q, s)) := ⟨_, _, _, hid rfl⟩
  have C := HU.out p1 r1 _ (HST.out.cell (n := ({ mgZ with ki := (a1 : Int) } : MgM)) (v := .int .i64 (a1 : Int)) 0 (mgc_ki2 _ _ _ _ _)).rd 21 (by omega) (by omega)
  rw [HA2.out] at C
  refine C.mono ?_
  clear C
  rintro e w2 ⟨rfl, hrd, hgr⟩
  have hst : MrSt w w2 g l p2 r2 ({ mgZ with ki := (a1 : Int) } : MgM) (.slice none 0 0) (.slice none 0 0) (.slice none 0 0) := (HST.out.cell (n := ({ mgZ with ki := (a1 : Int) } : MgM)) (v := .int .i64 (a1 : Int)) 0 (mgc_ki2 _ _ _ _ _)).grow hrd hgr
  clear hrd hgr HST k0 k1 k2 g1
  obtain ⟨⟨k0, k1, k2⟩, g1⟩ := hst.ints
  have HST := hid hst
  clear hst
  go_wp2_with fail
  obtain ⟨a3, p3, r3, HA3⟩ : ∃ x q s, Hid (rdUpto 21 l p2 r2 = (x, q, s)) := ⟨_, _, _, hid rfl⟩
  have C := HU.out p2 r2 _ (HST.out.cell (n := ({ mgZ with ki := (a1 : Int), fr := (a2 : Int) } : MgM)) (v := .int .i64 (a2 : Int)) 1 (mgc_fr2 _ _ _ _ _)).rd 21 (by omega) (by omega)
  rw [HA3.out] at C
  refine C.mono ?_
  clear C
  rintro e w3 ⟨rfl, hrd, hgr⟩
  have hst : MrSt w w3 g l p3 r3 ({ mgZ with ki := (a1 : Int), fr := (a2 : Int) } : MgM) (.slice none 0 0) (.slice none 0 0) (.slice none 0 0) := (HST.out.cell (n := ({ mgZ with ki := (a1 : Int), fr := (a2 : Int) } : MgM)) (v := .int .i64 (a2 : Int)) 1 (mgc_fr2 _ _ _ _ _)).grow hrd hgr
  clear hrd hgr HST k0 k1 k2 g1
  obtain ⟨⟨k0, k1, k2⟩, g1⟩ := hst.ints
  have HST := hid hst
  clear hst
  simp only
  go_upto_region 5 with (fail)
  have hst := HST.out.cell (n := ({ mgZ with ki := (a1 : Int), fr := (a2 : Int), tu := (a3 : Int) } : MgM)) (v := .int .i64 (a3 : Int)) 2 (mgc_tu2 _ _ _ _ _)
  obtain ⟨hd, HHD⟩ : ∃ m : MgM, Hid (({ mgZ with ki := (a1 : Int), fr := (a2 : Int), tu := (a3 : Int) } : MgM) = m) := ⟨_, hid rfl⟩
  have HKI0 : Hid (hd.ki = (a1 : Int)) := hid (by rw [← HHD.out])
  have HDO : Hid hd.Ok := hid (by rw [← HHD.out]; exact ⟨mgZ_ok.aa, mgZ_ok.cc, mgZ_ok.xx, mgZ_ok.kk, mgZ_ok.hh⟩)
  have HDZ : Hid (hd.cc = ctZ ∧ hd.xx = acZ ∧ hd.kk = bkZ) := hid (by rw [← HHD.out]; exact ⟨rfl, rfl, rfl⟩)
  have HHE : Hid (headM l = (hd, p3, r3)) := hid (by
    unfold headM
    simp only [HA1.out, HA2.out, HA3.out]
    rw [← HHD.out])
  rw [HHD.out] at hst
  clear k0 k1 k2 g1 HST
  generalize (w3.setCell ⟨w.heap.size + 1, 2, none⟩ (.int .i64 (a3 : Int))) = w4 at *
  obtain ⟨kn, HKN⟩ : ∃ n : Int, Hid ((a1 : Int) = n) := ⟨_, hid rfl⟩
  have k0 := hst.ints.1.1
  rw [HKI0.out, HKN.out] at k0
  obtain ⟨Y, HY⟩ : ∃ C : Array Value, Hid (ptZ = C) := ⟨_, hid rfl⟩
  obtain ⟨P, HP0⟩ : ∃ C : Array Value, Hid (ptc kn = C) := ⟨_, hid rfl⟩
  have HPC : Hid (ptc hd.ki = P) := hid (by rw [HKI0.out, HKN.out]; exact HP0.out)
  have C := parts11_any kn w4
  rw [HP0.out] at C
  have HST4 := hid hst
  clear hst
  go_wp2_with fail
  refine C.mono ?_
  clear C
  rintro e w5 ⟨rfl, hb5⟩
  have HST5 := hid (HST4.out.below hb5)
  have hs5 := pt_var w5 (Z := Y) (S := P) (by rw [← HY.out]; rfl) (by rw [← HP0.out]; rfl) (by rw [← HP0.out]; exact pt_one _ _ _ _ _ _)
  have hal5 : allocPt w5 = .ok (.value (.pointer (some ⟨w5.heap.size, 0, none⟩))) (w5.alloc (.cells Y 61)) := by rw [← HY.out]; exact allocPt_eq w5
  clear k0 hb5 HST4
  go_upto_region 6 with (fail)
  have hr6 := heap_alloc_new w5 (.cells P 61)
  have hb6 : Below w5.heap.size w5 (w5.alloc (.cells P 61)) := (Below.refl _ _).alloc (Nat.le_refl _) _
  have HGB : Hid (w.heap.size + 1 < w5.heap.size) := hid HST5.out.b1.lt
  have hst6 := HST5.out.below hb6
  obtain ⟨gp, HGP⟩ : ∃ k : Nat, Hid (w5.heap.size = k) := ⟨_, hid rfl⟩
  rw [HGP.out] at hr6 HGB ⊢
  clear hs5 hal5 HST5
  generalize (w5.alloc (.cells P 61)) = w6 at *
  have HRX6 := hid hr6
  have HST6 := hid hst6
  have HGL := hid hst6.lt
  have HSZ6 : Hid (w.heap.size + 2 ≤ w6.heap.size) := hid (by have := hst6.b1.lt; omega)
  clear hr6 hst6 hb6
  by_cases h : isA hd.ki
  case pos =>
    have HKI : Hid (isA hd.ki) := hid h
    clear h
    obtain ⟨q, hq, hq0, hqk⟩ := pt_aa HKI.out
    obtain rfl : P = #[.int .i64 q, .int .i64 0, .bool false, .bool false, .bool false, .bool false] := HPC.out.symm.trans hq
    clear hq hqk
    obtain ⟨c0, c1, c2, c3, c4, c5⟩ := pt_cells HRX6.out
    have C := HR8.out p3 r3 w6 HST6.out.rd
    obtain ⟨na, HNA⟩ : ∃ x : AtM, Hid (atOf l p3 r3 = x) := ⟨_, hid rfl⟩
    obtain ⟨bi, HBI⟩ : ∃ x : Bool, Hid (atIs l p3 r3 = x) := ⟨_, hid rfl⟩
    rw [HNA.out, HBI.out] at C
    have HNO : Hid na.Ok := hid (by rw [← HNA.out]; exact atOf_ok _ _ _)
    obtain ⟨G, HG⟩ : ∃ C : Array Value, Hid (atc na = C) := ⟨_, hid rfl⟩
    rw [HG.out] at C
    have HC := hid C
    clear C
    go_wp2_with fail
    refine HC.out.mono ?_
    rintro e w7 ⟨rfl, ⟨q7, s7', hrd, hqs⟩, hgr⟩
    have HQS := hid hqs
    have HST7 := hid (HST6.out.grow hrd hgr)
    have HRX7 := hid ((hgr.block _ (lt_of_block HRX6.out) (fun e => by injection e with e; have := HGB.out; have := HGL.out; omega)).trans HRX6.out)
    have HXB := hid HST7.out.b1
    clear hrd hgr hqs HST6 c0 c1 c2 c3 c4 c5
    obtain ⟨c0, c1, c2, c3, c4, c5⟩ := pt_cells HRX7.out
    go_upto_region 8 with (refine wpList_store_maa rfl _ _ rfl na HNO.out rfl (by rw [HG.out]; rfl) HXB.out HDO.out ?_; intro wN hg hX hs; clear HXB)
    have HSTN := hid (HST7.out.att hg hX)
    have HRXN := hid ((hg.block _ (lt_of_block HRX7.out) (fun e => by injection e with e; have := HGB.out; have := HGL.out; omega)).trans HRX7.out)
    clear c0 c1 c2 c3 c4 c5
    obtain ⟨c0, c1, c2, c3, c4, c5⟩ := pt_cells HRXN.out
    have HMK : Hid (({ hd with aa := na } : MgM).Ok) := hid ⟨HNO.out, HDO.out.cc, HDO.out.xx, HDO.out.kk, HDO.out.hh⟩
    clear hg hX hs
    obtain ⟨rm, HRM0⟩ : ∃ m : MgM, Hid (({ hd with aa := na } : MgM) = m) := ⟨_, hid rfl⟩
    have HRM : Hid (rawM l = rm) := hid (by rw [rawM_hd HHE.out]; unfold restM; rw [if_pos HKI.out]; rw [HNA.out]; exact HRM0.out)
    have HON := hid (show OwnM (w.heap.size + 2) wN ({ hd with aa := na } : MgM) (.slice none 0 0) (.slice none 0 0) (.slice none 0 0) from OwnM.of (.inl ⟨by show hd.cc.sg = []; rw [HDZ.out.1]; rfl, rfl⟩) (.inl ⟨by show hd.xx.fr = []; rw [HDZ.out.2.1]; rfl, rfl⟩) (.inl ⟨by show hd.kk.txs = []; rw [HDZ.out.2.2]; rfl, rfl⟩))
    have HMS := HSTN.out
    have HMO := HMK.out
    have HMW := HON.out
    rw [HRM0.out] at HMS HMO HMW
    obtain ⟨X, hX, lX, sX, rX, pX⟩ := mr_fin HMS HMO HMW HRM.out (end_aa HHE.out HKI.out (fun h => HQS.out (by rw [← HBI.out]; exact h)))
    have HFX := hid (And.intro hX (And.intro rX pX))
    clear hX rX pX HMS HMO HMW
    go_wp2_with fail
    refine bodyPost_ret (results_mg rfl _ _ _ _ _ rfl HFX.out.2.1 HFX.out.1) rfl ?_
    exact HFX.out.2.2
  have h_aa := h
  clear h
  by_cases h : isC hd.ki
  case pos =>
    have HKI : Hid (isC hd.ki) := hid h
    clear h
    obtain ⟨q, hq, hq0, hqk⟩ := pt_cc HKI.out
    obtain rfl : P = #[.int .i64 0, .int .i64 q, .bool false, .bool false, .bool false, .bool false] := HPC.out.symm.trans hq
    clear hq hqk
    obtain ⟨c0, c1, c2, c3, c4, c5⟩ := pt_cells HRX6.out
    have C := HR9.out p3 r3 w6 HST6.out.rd
    unfold RcPost at C
    obtain ⟨na, HNA⟩ : ∃ x : CtM, Hid (ctOf l p3 r3 = x) := ⟨_, hid rfl⟩
    obtain ⟨bi, HBI⟩ : ∃ x : Bool, Hid (ctIs l p3 r3 = x) := ⟨_, hid rfl⟩
    rw [HNA.out, HBI.out] at C
    have HC := hid C
    clear C
    go_wp2_with fail
    refine HC.out.mono ?_
    rintro e w7 ⟨x7, rfl, ⟨s7, rfl, ho7, how7⟩, ⟨q7, s7', hrd, hqs⟩, hgr⟩
    have HNO := hid ho7
    have HOW := hid (how7.more (B' := w.heap.size + 2) HSZ6.out)
    have HEL := hid (HOW.out.els eltSg ho7.sg)
    obtain ⟨G, HG⟩ : ∃ C : Array Value, Hid (ctc na s7 = C) := ⟨_, hid rfl⟩
    rw [HG.out]
    clear ho7 how7
    have HQS := hid hqs
    have HST7 := hid (HST6.out.grow hrd hgr)
    have HRX7 := hid ((hgr.block _ (lt_of_block HRX6.out) (fun e => by injection e with e; have := HGB.out; have := HGL.out; omega)).trans HRX6.out)
    have HXB := hid HST7.out.b1
    clear hrd hgr hqs HST6 c0 c1 c2 c3 c4 c5
    obtain ⟨c0, c1, c2, c3, c4, c5⟩ := pt_cells HRX7.out
    go_upto_region 10 with (refine wpList_store_mcc rfl _ _ rfl na s7 HNO.out.att (ctl_one HEL.out) rfl (by rw [HG.out]; rfl) HXB.out HDO.out ?_; intro wN hg hX hs; clear HXB)
    have HSTN := hid (HST7.out.att hg hX)
    have HRXN := hid ((hg.block _ (lt_of_block HRX7.out) (fun e => by injection e with e; have := HGB.out; have := HGL.out; omega)).trans HRX7.out)
    clear c0 c1 c2 c3 c4 c5
    obtain ⟨c0, c1, c2, c3, c4, c5⟩ := pt_cells HRXN.out
    have HMK : Hid (({ hd with cc := na } : MgM).Ok) := hid ⟨HDO.out.aa, HNO.out, HDO.out.xx, HDO.out.kk, HDO.out.hh⟩
    have HOF := hid (HOW.out.far hg (by omega))
    clear hg hX hs
    obtain ⟨rm, HRM0⟩ : ∃ m : MgM, Hid (({ hd with cc := na } : MgM) = m) := ⟨_, hid rfl⟩
    have HRM : Hid (rawM l = rm) := hid (by rw [rawM_hd HHE.out]; unfold restM; rw [if_neg (by have h := HKI.out; unfold isC at h; unfold isA; omega), if_pos HKI.out]; rw [HNA.out]; exact HRM0.out)
    have HON := hid (show OwnM (w.heap.size + 2) wN ({ hd with cc := na } : MgM) s7 (.slice none 0 0) (.slice none 0 0) from OwnM.of (.inr HOF.out) (.inl ⟨by show hd.xx.fr = []; rw [HDZ.out.2.1]; rfl, rfl⟩) (.inl ⟨by show hd.kk.txs = []; rw [HDZ.out.2.2]; rfl, rfl⟩))
    have HMS := HSTN.out
    have HMO := HMK.out
    have HMW := HON.out
    rw [HRM0.out] at HMS HMO HMW
    obtain ⟨X, hX, lX, sX, rX, pX⟩ := mr_fin HMS HMO HMW HRM.out (end_cc HHE.out HKI.out (fun h => HQS.out (by rw [← HBI.out]; exact h)))
    have HFX := hid (And.intro hX (And.intro rX pX))
    clear hX rX pX HMS HMO HMW
    go_wp2_with fail
    refine bodyPost_ret (results_mg rfl _ _ _ _ _ rfl HFX.out.2.1 HFX.out.1) rfl ?_
    exact HFX.out.2.2
  have h_cc := h
  clear h
  by_cases h : hd.ki = 7
  case pos =>
    have HKI : Hid (hd.ki = 7) := hid h
    clear h
    obtain rfl : P = #[.int .i64 0, .int .i64 0, .bool false, .bool false, .bool true, .bool false] := HPC.out.symm.trans (pt_hh HKI.out)
    obtain ⟨c0, c1, c2, c3, c4, c5⟩ := pt_cells HRX6.out
    obtain ⟨na, q7, s7', HNA⟩ : ∃ x q s, Hid (rdHash l p3 r3 = (x, q, s)) := ⟨_, _, _, hid rfl⟩
    have HNO : Hid (na.length = 32) := hid (by have := rdHash_32 l p3 r3; rw [HNA.out] at this; exact this)
    have C := HH.out p3 r3 w6 HST6.out.rd
    rw [HNA.out] at C
    obtain ⟨G, HG⟩ : ∃ C : Array Value, Hid (hcells na = C) := ⟨_, hid rfl⟩
    simp only [HG.out] at C
    have HC := hid C
    clear C
    go_wp2_with fail
    refine HC.out.mono ?_
    rintro e w7 ⟨rfl, hrd, hgr⟩
    have HST7 := hid (HST6.out.grow hrd hgr)
    have HRX7 := hid ((hgr.block _ (lt_of_block HRX6.out) (fun e => by injection e with e; have := HGB.out; have := HGL.out; omega)).trans HRX6.out)
    have HXB := hid HST7.out.b1
    clear hrd hgr HST6 c0 c1 c2 c3 c4 c5
    obtain ⟨c0, c1, c2, c3, c4, c5⟩ := pt_cells HRX7.out
    go_upto_region 16 with (refine wpList_store_mhh rfl _ _ rfl na HNO.out rfl (by rw [HG.out]; rfl) HXB.out HDO.out ?_; intro wN hg hX hs; clear HXB)
    have HSTN := hid (HST7.out.att hg hX)
    have HRXN := hid ((hg.block _ (lt_of_block HRX7.out) (fun e => by injection e with e; have := HGB.out; have := HGL.out; omega)).trans HRX7.out)
    clear c0 c1 c2 c3 c4 c5
    obtain ⟨c0, c1, c2, c3, c4, c5⟩ := pt_cells HRXN.out
    have HMK : Hid (({ hd with hh := na } : MgM).Ok) := hid ⟨HDO.out.aa, HDO.out.cc, HDO.out.xx, HDO.out.kk, HNO.out⟩
    clear hg hX hs
    obtain ⟨rm, HRM0⟩ : ∃ m : MgM, Hid (({ hd with hh := na } : MgM) = m) := ⟨_, hid rfl⟩
    have HRM : Hid (rawM l = rm) := hid (by rw [rawM_hd HHE.out]; unfold restM; rw [if_neg (by have h := HKI.out; unfold isA; omega), if_neg (by have h := HKI.out; unfold isC; omega), if_pos HKI.out]; rw [HNA.out]; exact HRM0.out)
    have HON := hid (show OwnM (w.heap.size + 2) wN ({ hd with hh := na } : MgM) (.slice none 0 0) (.slice none 0 0) (.slice none 0 0) from OwnM.of (.inl ⟨by show hd.cc.sg = []; rw [HDZ.out.1]; rfl, rfl⟩) (.inl ⟨by show hd.xx.fr = []; rw [HDZ.out.2.1]; rfl, rfl⟩) (.inl ⟨by show hd.kk.txs = []; rw [HDZ.out.2.2]; rfl, rfl⟩))
    have HMS := HSTN.out
    have HMO := HMK.out
    have HMW := HON.out
    rw [HRM0.out] at HMS HMO HMW
    obtain ⟨X, hX, lX, sX, rX, pX⟩ := mr_fin HMS HMO HMW HRM.out (end_hh HHE.out HKI.out (by rw [HNA.out]) (by rw [HNA.out]))
    have HFX := hid (And.intro hX (And.intro rX pX))
    clear hX rX pX HMS HMO HMW
    go_wp2_with fail
    refine bodyPost_ret (results_mg rfl _ _ _ _ _ rfl HFX.out.2.1 HFX.out.1) rfl ?_
    exact HFX.out.2.2
  have h_hh := h
  clear h
  by_cases h : hd.ki = 8
  case pos =>
    have HKI : Hid (hd.ki = 8) := hid h
    clear h
    obtain rfl : P = #[.int .i64 0, .int .i64 0, .bool true, .bool false, .bool false, .bool false] := HPC.out.symm.trans (pt_kk HKI.out)
    obtain ⟨c0, c1, c2, c3, c4, c5⟩ := pt_cells HRX6.out
    obtain ⟨tb, p4, r4, HTB⟩ : ∃ x q s, Hid (rdText l p3 r3 = (x, q, s)) := ⟨_, _, _, hid rfl⟩
    have C := HT.out p3 r3 w6 HST6.out.rd
    unfold TextRead at C
    rw [HTB.out] at C
    have HTL : Hid (tb.length ≤ 65536) := hid (by have := rdText_short l p3 r3; rw [HTB.out] at this; exact this)
    have HC := hid C
    clear C
    go_wp2_with fail
    refine HC.out.mono ?_
    rintro e w7 ⟨v7, rfl, hv7, hrd, hgr⟩
    have HST7 := hid (HST6.out.grow hrd hgr)
    have HRX7 := hid ((hgr.block _ (lt_of_block HRX6.out) (fun e => by injection e with e; have := HGB.out; have := HGL.out; omega)).trans HRX6.out)
    have HSZ7 : Hid (w.heap.size + 2 ≤ w7.heap.size) := hid (by have := HSZ6.out; have := hgr.size; omega)
    have C := bkGet_any v7 tb w7 hv7.byt (by have := HTL.out; omega)
    obtain ⟨na, HNA⟩ : ∃ x : BkM, Hid (gotK tb = x) := ⟨_, hid rfl⟩
    obtain ⟨ek, HEK⟩ : ∃ x : Int, Hid ((if isK tb = true then (0 : Int) else 2) = x) := ⟨_, hid rfl⟩
    rw [HNA.out, HEK.out] at C
    have HC2 := hid C
    clear C hv7 hrd hgr HST6 c0 c1 c2 c3 c4 c5
    obtain ⟨c0, c1, c2, c3, c4, c5⟩ := pt_cells HRX7.out
    go_wp2_with fail
    refine HC2.out.mono ?_
    rintro e w8 ⟨x8, rfl, ⟨s7, rfl, ho8, ht8, how8⟩, hb8⟩
    have HNO := hid ho8
    have HEL := hid ht8
    have HOW := hid (fun h => (how8 h).more (B' := w.heap.size + 2) HSZ7.out)
    have HST8 := hid (HST7.out.below hb8)
    have HRX8 := hid ((hb8.block _ (lt_of_block HRX7.out)).trans HRX7.out)
    obtain ⟨G, HG⟩ : ∃ C : Array Value, Hid (bkc na s7 = C) := ⟨_, hid rfl⟩
    rw [HG.out]
    have HXB := hid HST8.out.b1
    clear ho8 ht8 how8 hb8 HST7 c0 c1 c2 c3 c4 c5
    obtain ⟨c0, c1, c2, c3, c4, c5⟩ := pt_cells HRX8.out
    go_upto_region 12 with (refine wpList_store_mkk rfl _ _ rfl na s7 HNO.out (bkl_one HEL.out) rfl (by rw [HG.out]; rfl) HXB.out HDO.out ?_; intro wN hg hX hs; clear HXB)
    have HSTN := hid (HST8.out.att hg hX)
    have HRXN := hid ((hg.block _ (lt_of_block HRX8.out) (fun e => by injection e with e; have := HGB.out; have := HGL.out; omega)).trans HRX8.out)
    have HOT := hid (txs_kept HEL.out HOW.out hg (by omega))
    clear c0 c1 c2 c3 c4 c5
    obtain ⟨c0, c1, c2, c3, c4, c5⟩ := pt_cells HRXN.out
    have HMK : Hid (({ hd with kk := na } : MgM).Ok) := hid ⟨HDO.out.aa, HDO.out.cc, HDO.out.xx, HNO.out, HDO.out.hh⟩
    clear hg hX hs
    obtain ⟨rm, HRM0⟩ : ∃ m : MgM, Hid (({ hd with kk := na } : MgM) = m) := ⟨_, hid rfl⟩
    have HRM : Hid (rawM l = rm) := hid (by rw [rawM_hd HHE.out]; unfold restM; rw [if_neg (by have h := HKI.out; unfold isA; omega), if_neg (by have h := HKI.out; unfold isC; omega), if_neg (by have h := HKI.out; omega), if_neg (by have h := HKI.out; omega), if_neg (by have h := HKI.out; omega), if_neg (by have h := HKI.out; omega), if_pos HKI.out]; rw [HTB.out]; simp only [HNA.out]; exact HRM0.out)
    have HON := hid (show OwnM (w.heap.size + 2) wN ({ hd with kk := na } : MgM) (.slice none 0 0) (.slice none 0 0) s7 from OwnM.of (.inl ⟨by show hd.cc.sg = []; rw [HDZ.out.1]; rfl, rfl⟩) (.inl ⟨by show hd.xx.fr = []; rw [HDZ.out.2.1]; rfl, rfl⟩) (.inr HOT.out))
    have HMS := HSTN.out
    have HMO := HMK.out
    have HMW := HON.out
    rw [HRM0.out] at HMS HMO HMW
    obtain ⟨X, hX, lX, sX, rX, pX⟩ := mr_fin HMS HMO HMW HRM.out (end_kk HHE.out HKI.out (by rw [HTB.out]) (by rw [HTB.out]))
    have HFX := hid (And.intro hX (And.intro rX pX))
    clear hX rX pX HMS HMO HMW
    go_wp2_with fail
    refine bodyPost_ret (results_mg rfl _ _ _ _ _ rfl HFX.out.2.1 HFX.out.1) rfl ?_
    exact HFX.out.2.2
  have h_kk := h
  clear h
  by_cases h : hd.ki = 9
  case pos =>
    have HKI : Hid (hd.ki = 9) := hid h
    clear h
    obtain rfl : P = #[.int .i64 0, .int .i64 0, .bool false, .bool false, .bool false, .bool true] := HPC.out.symm.trans (pt_tt HKI.out)
    obtain ⟨c0, c1, c2, c3, c4, c5⟩ := pt_cells HRX6.out
    have C := HR6.out p3 r3 w6 HST6.out.rd
    obtain ⟨na, HNA⟩ : ∃ x : TxM, Hid (rdTx l p3 r3 = x) := ⟨_, hid rfl⟩
    obtain ⟨bi, HBI⟩ : ∃ x : Bool, Hid (rdIs l p3 r3 = x) := ⟨_, hid rfl⟩
    rw [HNA.out, HBI.out] at C
    obtain ⟨G, HG⟩ : ∃ C : Array Value, Hid ((tcl na).toArray = C) := ⟨_, hid rfl⟩
    rw [txv_tcl, HG.out] at C
    have HC := hid C
    clear C
    go_wp2_with fail
    refine HC.out.mono ?_
    rintro e w7 ⟨rfl, ⟨q7, s7', hrd, hqs⟩, hgr⟩
    have HQS := hid hqs
    have HST7 := hid (HST6.out.grow hrd hgr)
    have HRX7 := hid ((hgr.block _ (lt_of_block HRX6.out) (fun e => by injection e with e; have := HGB.out; have := HGL.out; omega)).trans HRX6.out)
    have HXB := hid HST7.out.b1
    clear hrd hgr hqs HST6 c0 c1 c2 c3 c4 c5
    obtain ⟨c0, c1, c2, c3, c4, c5⟩ := pt_cells HRX7.out
    go_upto_region 18 with (refine wpList_store_mtt rfl _ _ rfl na rfl (by rw [HG.out]; rfl) HXB.out HDO.out ?_; intro wN hg hX hs; clear HXB)
    have HSTN := hid (HST7.out.att hg hX)
    have HRXN := hid ((hg.block _ (lt_of_block HRX7.out) (fun e => by injection e with e; have := HGB.out; have := HGL.out; omega)).trans HRX7.out)
    clear c0 c1 c2 c3 c4 c5
    obtain ⟨c0, c1, c2, c3, c4, c5⟩ := pt_cells HRXN.out
    have HMK : Hid (({ hd with tt := na } : MgM).Ok) := hid ⟨HDO.out.aa, HDO.out.cc, HDO.out.xx, HDO.out.kk, HDO.out.hh⟩
    clear hg hX hs
    obtain ⟨rm, HRM0⟩ : ∃ m : MgM, Hid (({ hd with tt := na } : MgM) = m) := ⟨_, hid rfl⟩
    have HRM : Hid (rawM l = rm) := hid (by rw [rawM_hd HHE.out]; unfold restM; rw [if_neg (by have h := HKI.out; unfold isA; omega), if_neg (by have h := HKI.out; unfold isC; omega), if_neg (by have h := HKI.out; omega), if_pos HKI.out]; rw [HNA.out]; exact HRM0.out)
    have HON := hid (show OwnM (w.heap.size + 2) wN ({ hd with tt := na } : MgM) (.slice none 0 0) (.slice none 0 0) (.slice none 0 0) from OwnM.of (.inl ⟨by show hd.cc.sg = []; rw [HDZ.out.1]; rfl, rfl⟩) (.inl ⟨by show hd.xx.fr = []; rw [HDZ.out.2.1]; rfl, rfl⟩) (.inl ⟨by show hd.kk.txs = []; rw [HDZ.out.2.2]; rfl, rfl⟩))
    have HMS := HSTN.out
    have HMO := HMK.out
    have HMW := HON.out
    rw [HRM0.out] at HMS HMO HMW
    obtain ⟨X, hX, lX, sX, rX, pX⟩ := mr_fin HMS HMO HMW HRM.out (end_tt HHE.out HKI.out (fun h => HQS.out (by rw [← HBI.out]; exact h)))
    have HFX := hid (And.intro hX (And.intro rX pX))
    clear hX rX pX HMS HMO HMW
    go_wp2_with fail
    refine bodyPost_ret (results_mg rfl _ _ _ _ _ rfl HFX.out.2.1 HFX.out.1) rfl ?_
    exact HFX.out.2.2
  have h_tt := h
  clear h
  by_cases h : hd.ki = 10
  case pos =>
    have HKI : Hid (hd.ki = 10) := hid h
    clear h
    obtain rfl : P = #[.int .i64 0, .int .i64 0, .bool false, .bool true, .bool false, .bool false] := HPC.out.symm.trans (pt_xx HKI.out)
    obtain ⟨c0, c1, c2, c3, c4, c5⟩ := pt_cells HRX6.out
    have C := HR10.out p3 r3 w6 HST6.out.rd
    unfold RxPost at C
    obtain ⟨na, HNA⟩ : ∃ x : AcM, Hid (acOf l p3 r3 = x) := ⟨_, hid rfl⟩
    obtain ⟨bi, HBI⟩ : ∃ x : Bool, Hid (acIs l p3 r3 = x) := ⟨_, hid rfl⟩
    rw [HNA.out, HBI.out] at C
    have HC := hid C
    clear C
    go_wp2_with fail
    refine HC.out.mono ?_
    rintro e w7 ⟨x7, rfl, ⟨s7, rfl, ho7, how7⟩, ⟨q7, s7', hrd, hqs⟩, hgr⟩
    have HNO := hid ho7
    have HOW := hid (how7.more (B' := w.heap.size + 2) HSZ6.out)
    have HEL := hid (HOW.out.els eltIc (fun _ _ => trivial))
    obtain ⟨G, HG⟩ : ∃ C : Array Value, Hid (axc na s7 = C) := ⟨_, hid rfl⟩
    rw [HG.out]
    clear ho7 how7
    have HQS := hid hqs
    have HST7 := hid (HST6.out.grow hrd hgr)
    have HRX7 := hid ((hgr.block _ (lt_of_block HRX6.out) (fun e => by injection e with e; have := HGB.out; have := HGL.out; omega)).trans HRX6.out)
    have HXB := hid HST7.out.b1
    clear hrd hgr hqs HST6 c0 c1 c2 c3 c4 c5
    obtain ⟨c0, c1, c2, c3, c4, c5⟩ := pt_cells HRX7.out
    go_upto_region 14 with (refine wpList_store_mxx rfl _ _ rfl na s7 HNO.out (axl_one HEL.out) rfl (by rw [HG.out]; rfl) HXB.out HDO.out ?_; intro wN hg hX hs; clear HXB)
    have HSTN := hid (HST7.out.att hg hX)
    have HRXN := hid ((hg.block _ (lt_of_block HRX7.out) (fun e => by injection e with e; have := HGB.out; have := HGL.out; omega)).trans HRX7.out)
    clear c0 c1 c2 c3 c4 c5
    obtain ⟨c0, c1, c2, c3, c4, c5⟩ := pt_cells HRXN.out
    have HMK : Hid (({ hd with xx := na } : MgM).Ok) := hid ⟨HDO.out.aa, HDO.out.cc, HNO.out, HDO.out.kk, HDO.out.hh⟩
    have HOF := hid (HOW.out.far hg (by omega))
    clear hg hX hs
    obtain ⟨rm, HRM0⟩ : ∃ m : MgM, Hid (({ hd with xx := na } : MgM) = m) := ⟨_, hid rfl⟩
    have HRM : Hid (rawM l = rm) := hid (by rw [rawM_hd HHE.out]; unfold restM; rw [if_neg (by have h := HKI.out; unfold isA; omega), if_neg (by have h := HKI.out; unfold isC; omega), if_neg (by have h := HKI.out; omega), if_neg (by have h := HKI.out; omega), if_pos HKI.out]; rw [HNA.out]; exact HRM0.out)
    have HON := hid (show OwnM (w.heap.size + 2) wN ({ hd with xx := na } : MgM) (.slice none 0 0) s7 (.slice none 0 0) from OwnM.of (.inl ⟨by show hd.cc.sg = []; rw [HDZ.out.1]; rfl, rfl⟩) (.inr HOF.out) (.inl ⟨by show hd.kk.txs = []; rw [HDZ.out.2.2]; rfl, rfl⟩))
    have HMS := HSTN.out
    have HMO := HMK.out
    have HMW := HON.out
    rw [HRM0.out] at HMS HMO HMW
    obtain ⟨X, hX, lX, sX, rX, pX⟩ := mr_fin HMS HMO HMW HRM.out (end_xx HHE.out HKI.out (fun h => HQS.out (by rw [← HBI.out]; exact h)))
    have HFX := hid (And.intro hX (And.intro rX pX))
    clear hX rX pX HMS HMO HMW
    go_wp2_with fail
    refine bodyPost_ret (results_mg rfl _ _ _ _ _ rfl HFX.out.2.1 HFX.out.1) rfl ?_
    exact HFX.out.2.2
  have h_xx := h
  clear h
  by_cases h : hd.ki = 2
  case pos =>
    have HKI : Hid (hd.ki = 2) := hid h
    clear h
    obtain rfl : P = #[.int .i64 0, .int .i64 0, .bool true, .bool true, .bool false, .bool false] := HPC.out.symm.trans (pt_ka HKI.out)
    obtain ⟨c0, c1, c2, c3, c4, c5⟩ := pt_cells HRX6.out
    obtain ⟨tb, p4, r4, HTB⟩ : ∃ x q s, Hid (rdText l p3 r3 = (x, q, s)) := ⟨_, _, _, hid rfl⟩
    have C := HT.out p3 r3 w6 HST6.out.rd
    unfold TextRead at C
    rw [HTB.out] at C
    have HTL : Hid (tb.length ≤ 65536) := hid (by have := rdText_short l p3 r3; rw [HTB.out] at this; exact this)
    have HC := hid C
    clear C
    go_wp2_with fail
    refine HC.out.mono ?_
    rintro e w7 ⟨v7, rfl, hv7, hrd, hgr⟩
    have HST7 := hid (HST6.out.grow hrd hgr)
    have HRX7 := hid ((hgr.block _ (lt_of_block HRX6.out) (fun e => by injection e with e; have := HGB.out; have := HGL.out; omega)).trans HRX6.out)
    have HSZ7 : Hid (w.heap.size + 2 ≤ w7.heap.size) := hid (by have := HSZ6.out; have := hgr.size; omega)
    have C := bkGet_any v7 tb w7 hv7.byt (by have := HTL.out; omega)
    obtain ⟨na, HNA⟩ : ∃ x : BkM, Hid (gotK tb = x) := ⟨_, hid rfl⟩
    obtain ⟨ek, HEK⟩ : ∃ x : Int, Hid ((if isK tb = true then (0 : Int) else 2) = x) := ⟨_, hid rfl⟩
    rw [HNA.out, HEK.out] at C
    have HC2 := hid C
    clear C hv7 hrd hgr HST6 c0 c1 c2 c3 c4 c5
    obtain ⟨c0, c1, c2, c3, c4, c5⟩ := pt_cells HRX7.out
    go_wp2_with fail
    refine HC2.out.mono ?_
    rintro e w8 ⟨x8, rfl, ⟨s7, rfl, ho8, ht8, how8⟩, hb8⟩
    have HNO := hid ho8
    have HEL := hid ht8
    have HOW := hid (fun h => (how8 h).more (B' := w.heap.size + 2) HSZ7.out)
    have HST8 := hid (HST7.out.below hb8)
    have HRX8 := hid ((hb8.block _ (lt_of_block HRX7.out)).trans HRX7.out)
    obtain ⟨G, HG⟩ : ∃ C : Array Value, Hid (bkc na s7 = C) := ⟨_, hid rfl⟩
    rw [HG.out]
    have HXB := hid HST8.out.b1
    clear ho8 ht8 how8 hb8 HST7 c0 c1 c2 c3 c4 c5
    obtain ⟨c0, c1, c2, c3, c4, c5⟩ := pt_cells HRX8.out
    go_upto_region 12 with (refine wpList_store_mkk rfl _ _ rfl na s7 HNO.out (bkl_one HEL.out) rfl (by rw [HG.out]; rfl) HXB.out HDO.out ?_; intro wL hg hX hs; clear HXB)
    have HSTL := hid (HST8.out.att hg hX)
    have HRXL := hid ((hg.block _ (lt_of_block HRX8.out) (fun e => by injection e with e; have := HGB.out; have := HGL.out; omega)).trans HRX8.out)
    have HOT := hid (txs_kept HEL.out HOW.out hg (by omega))
    clear c0 c1 c2 c3 c4 c5
    obtain ⟨c0, c1, c2, c3, c4, c5⟩ := pt_cells HRXL.out
    have HSZL : Hid (w.heap.size + 2 ≤ wL.heap.size) := hid (by have := HSTL.out.b1.lt; omega)
    have C := HR10.out p4 r4 wL HSTL.out.rd
    unfold RxPost at C
    obtain ⟨nx, HNX⟩ : ∃ x : AcM, Hid (acOf l p4 r4 = x) := ⟨_, hid rfl⟩
    obtain ⟨bi, HBI⟩ : ∃ x : Bool, Hid (acIs l p4 r4 = x) := ⟨_, hid rfl⟩
    rw [HNX.out, HBI.out] at C
    have HC3 := hid C
    clear C hg hX hs
    go_wp2_with fail
    refine HC3.out.mono ?_
    rintro e w9 ⟨x9, rfl, ⟨s9, rfl, ho9, how9⟩, ⟨q7, s7', hrd, hqs⟩, hgr⟩
    have HXO := hid ho9
    have HOX := hid (how9.more (B' := w.heap.size + 2) HSZL.out)
    have HEX := hid (HOX.out.els eltIc (fun _ _ => trivial))
    have HOT9 := hid (txs_kept HOT.out.1 HOT.out.2 hgr (by have := HGL.out; omega))
    have HQS := hid hqs
    have HST9 := hid (HSTL.out.grow hrd hgr)
    have HRX9 := hid ((hgr.block _ (lt_of_block HRXL.out) (fun e => by injection e with e; have := HGB.out; have := HGL.out; omega)).trans HRXL.out)
    obtain ⟨G2, HG2⟩ : ∃ C : Array Value, Hid (axc nx s9 = C) := ⟨_, hid rfl⟩
    rw [HG2.out]
    have HXB := hid HST9.out.b1
    have HOK9 : Hid (({ hd with kk := na } : MgM).Ok) := hid ⟨HDO.out.aa, HDO.out.cc, HDO.out.xx, HNO.out, HDO.out.hh⟩
    clear ho9 how9 hqs hrd hgr c0 c1 c2 c3 c4 c5
    obtain ⟨c0, c1, c2, c3, c4, c5⟩ := pt_cells HRX9.out
    go_upto_region 14 with (refine wpList_store_mxx rfl _ _ rfl nx s9 HXO.out (axl_one HEX.out) rfl (by rw [HG2.out]; rfl) HXB.out HOK9.out ?_; intro wN hg hX hs; clear HXB)
    have HSTN := hid (HST9.out.att hg hX)
    have HRXN := hid ((hg.block _ (lt_of_block HRX9.out) (fun e => by injection e with e; have := HGB.out; have := HGL.out; omega)).trans HRX9.out)
    have HOTN := hid (txs_kept HOT9.out.1 HOT9.out.2 hg (by omega))
    have HOXN := hid (HOX.out.far hg (by omega))
    clear c0 c1 c2 c3 c4 c5
    obtain ⟨c0, c1, c2, c3, c4, c5⟩ := pt_cells HRXN.out
    have HMK : Hid (({ { hd with kk := na } with xx := nx } : MgM).Ok) := hid ⟨HDO.out.aa, HDO.out.cc, HXO.out, HNO.out, HDO.out.hh⟩
    clear hg hX hs
    obtain ⟨rm, HRM0⟩ : ∃ m : MgM, Hid (({ { hd with kk := na } with xx := nx } : MgM) = m) := ⟨_, hid rfl⟩
    have HRM : Hid (rawM l = rm) := hid (by rw [rawM_hd HHE.out]; unfold restM; rw [if_neg (by have h := HKI.out; unfold isA; omega), if_neg (by have h := HKI.out; unfold isC; omega), if_neg (by have h := HKI.out; omega), if_neg (by have h := HKI.out; omega), if_neg (by have h := HKI.out; omega), if_pos HKI.out]; rw [HTB.out]; simp only [HNA.out, HNX.out]; exact HRM0.out)
    have HON := hid (show OwnM (w.heap.size + 2) wN ({ { hd with kk := na } with xx := nx } : MgM) (.slice none 0 0) s9 s7 from OwnM.of (.inl ⟨by show hd.cc.sg = []; rw [HDZ.out.1]; rfl, rfl⟩) (.inr HOXN.out) (.inr HOTN.out))
    have HMS := HSTN.out
    have HMO := HMK.out
    have HMW := HON.out
    rw [HRM0.out] at HMS HMO HMW
    obtain ⟨X, hX, lX, sX, rX, pX⟩ := mr_fin HMS HMO HMW HRM.out (end_ka HHE.out HKI.out (p4 := p4) (r4 := r4) (by rw [HTB.out]) (by rw [HTB.out]) (fun h => HQS.out (by rw [← HBI.out]; exact h)))
    have HFX := hid (And.intro hX (And.intro rX pX))
    clear hX rX pX HMS HMO HMW
    go_wp2_with fail
    refine bodyPost_ret (results_mg rfl _ _ _ _ _ rfl HFX.out.2.1 HFX.out.1) rfl ?_
    exact HFX.out.2.2
  have h_ka := h
  clear h
  have HKI : Hid (hd.ki < 1 ∨ 10 < hd.ki) := hid (by unfold isA at h_aa; unfold isC at h_cc; omega)
  clear h_aa h_cc h_hh h_kk h_tt h_xx h_ka
  obtain rfl : P = #[.int .i64 0, .int .i64 0, .bool false, .bool false, .bool false, .bool false] := HPC.out.symm.trans (ptc_no HKI.out)
  obtain ⟨c0, c1, c2, c3, c4, c5⟩ := pt_cells HRX6.out
  have HSTN := HST6
  have HMK := HDO
  obtain ⟨rm, HRM0⟩ : ∃ m : MgM, Hid ((hd : MgM) = m) := ⟨_, hid rfl⟩
  have HRM : Hid (rawM l = rm) := hid (by rw [rawM_hd HHE.out]; unfold restM; rw [if_neg (by have h := HKI.out; unfold isA; omega), if_neg (by have h := HKI.out; unfold isC; omega), if_neg (by have h := HKI.out; omega), if_neg (by have h := HKI.out; omega), if_neg (by have h := HKI.out; omega), if_neg (by have h := HKI.out; omega), if_neg (by have h := HKI.out; omega)]; exact HRM0.out)
  have HON := hid (show OwnM (w.heap.size + 2) w6 (hd : MgM) (.slice none 0 0) (.slice none 0 0) (.slice none 0 0) from OwnM.of (.inl ⟨by show hd.cc.sg = []; rw [HDZ.out.1]; rfl, rfl⟩) (.inl ⟨by show hd.xx.fr = []; rw [HDZ.out.2.1]; rfl, rfl⟩) (.inl ⟨by show hd.kk.txs = []; rw [HDZ.out.2.2]; rfl, rfl⟩))
  have HMS := HSTN.out
  have HMO := HMK.out
  have HMW := HON.out
  rw [HRM0.out] at HMS HMO HMW
  obtain ⟨X, hX, lX, sX, rX, pX⟩ := mr_fin HMS HMO HMW HRM.out (end_no HHE.out HKI.out)
  have HFX := hid (And.intro hX (And.intro rX pX))
  clear hX rX pX HMS HMO HMW
  go_wp2_with fail
  refine bodyPost_ret (results_mg rfl _ _ _ _ _ rfl HFX.out.2.1 HFX.out.1) rfl ?_
  exact HFX.out.2.2
end Go.Proofs.YtjemfmbmlmogcaaGreat
