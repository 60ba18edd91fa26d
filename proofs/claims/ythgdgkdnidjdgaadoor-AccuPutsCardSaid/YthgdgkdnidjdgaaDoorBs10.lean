/-
  AtAwake Row Puts AtArg AtArg3 AtAlikesWalk Els ElsArg EltIc EltAt AtTwo CtPure Parts Tables Args AtBytes: what each of them says stands at its head.
-/
import Derived.Test.YthgdgkdnidjdgaaDoorBs9
import Derived.Test.YthgdgkdnidjdgaaDoorBs1
import Derived.ProofKit
import Derived.OpenShut
import Derived.ShutString
import Derived.ChangeOld
import Derived.Test.YthgdgkdnidjdgaaDoorBs2
import Derived.Deep.Slices
import Derived.ChangeArms
import Derived.Test.YthgdgkdnidjdgaaDoorBs3
import Derived.Test.YthgdgkdnidjdgaaDoorBs6
import Derived.Deep.MidRow
import Derived.Maps.AppendAt
import Derived.Test.YthgdgkdnidjdgaaDoorBs4
import Derived.Deep.QuietTactic
import Derived.BigQuiet
import Derived.Lib.LaidTab
import Derived.MakeChecks
import Derived.LaidMore
import Derived.Stop.Joined
import Derived.Stop.LaidErr
/-
  The laws' small example returns true, from what att's functions tell.
-/
namespace Go.Proofs.YthgdgkdnidjdgaaDoor
set_option maxRecDepth 20000
open Go.RowKit

theorem setAtt_alloc (w : World) (T : TypeId) (C0 C : Array Value) : setAtt (w.alloc (.cells C0 T)) w.heap.size C = w.alloc (.cells C T) := by
  have hm : ∀ (a : Array Obj) (x : Obj) (f : Obj → Obj), (a.push x).modify a.size f = a.push (f x) := by
    intro a x f
    apply Array.ext_getElem?
    intro k
    rw [Array.getElem?_modify]
    by_cases h : a.size = k
    · subst h
      simp
    · rw [if_neg h, Array.getElem?_push, Array.getElem?_push]
      rw [if_neg (fun e => h e.symm), if_neg (fun e => h e.symm)]
  unfold setAtt World.setRow World.alloc
  simp only [hm]
/-- A variable for an attestation, and what is told stored into it. -/
theorem att_var (w : World) {Z S : Array Value} (hZ : Z.size = 101) (hS : S.size = 101) (h1 : S.all (·.oneCell') = true) :
    storeAtt (.pointer (some ⟨w.heap.size, 0, none⟩)) (.agg S) (w.alloc (.cells Z 36)) = .ok .skip (w.alloc (.cells S 36)) := by
  rw [storeAtt_eq (heap_alloc_new w _) hZ hS h1, setAtt_alloc]
theorem atc_bo (a : AtM) (n : Int) : (atc a).setIfInBounds 0 (.int .i64 n) = atc { a with bo := n } := by
  unfold atc atl
  rw [List.setIfInBounds_toArray]
  rfl
/-- The small example's attestation, built. -/
noncomputable def buildEx (w : World) : Result Next := Sem.run Tryd.prog (execOp (fun _ => .int .i64 1) { dst := none, op := .build 36 #[(0, .const (.int .i64 2)), (1, .const (.int .i64 1)), (2, .const (.int .i64 3)), (3, .const (.int .i64 1)), (5, .const (.int .i64 2))], type := 0, pos := "", after := #[], guard := none }) w
theorem buildEx_run (w : World) : (Instr.build 36 #[(0, .int .i64 2), (1, .int .i64 1), (2, .int .i64 3), (3, .int .i64 1), (5, .int .i64 2)]).run Tryd.prog w = .ok (.agg (atc exA)) w := by
  go_simp
  rfl
theorem exec_build_ex (a : Act) (dst : Option Tmp) (ty : TypeId) (pos : String) (after : Array Edge) (guard : Option (Nat × Bool)) (w : World) :
    Sem.run Tryd.prog (execOp a.eval { dst := dst, op := .build 36 #[(0, .const (.int .i64 2)), (1, .const (.int .i64 1)), (2, .const (.int .i64 3)), (3, .const (.int .i64 1)), (5, .const (.int .i64 2))], type := ty, pos := pos, after := after, guard := guard }) w = .ok (.value (.agg (atc exA))) w := by
  unfold execOp
  simp [Act.eval, buildEx_run]
attribute [local go_sem ↓] exec_load_att exec_alloc_att exec_store_att exec_build_ex

end Go.Proofs.YthgdgkdnidjdgaaDoor

/-
  A slice of bytes that came in reads as bytes.
-/
namespace Go.Proofs.YthgdgkdnidjdgaaDoor
set_option maxRecDepth 20000
open Go.ChangeShapes Go.WideShapes Go.ChangeAt Go.RowKit

theorem ownKnob_none : ownKnob Tryd.prog.godebug = none := by kernel_rfl
theorem laidOut : laidOutB Tryd.prog = true := by kernel_rfl

/-- What is known of a slice of integers that came in. -/
def IsRow (k : IntKind) (w : World) (a : Option Addr) (len cap : Nat) (zs : List Int) : Prop :=
  (a = none ∧ len = 0 ∧ cap = 0 ∧ zs = []) ∨
  ∃ x, a = some x ∧ len ≤ cap ∧ cap ≤ maxLen ∧ zs.length = cap ∧ (∀ i, i < zs.length → w.cell? (x.add i) = some (.int k (zs.getD i 0))) ∧ ∀ n ∈ zs, (Lit.int k n).wf = true

theorem row_byt {w : World} {a : Option Addr} {len cap : Nat} {zs : List Int} (h : IsRow .u8 w a len cap zs) : ∃ l : List UInt8, l.length = len ∧ Byt w (.slice a len cap) l := by
  rcases h with ⟨rfl, rfl, rfl, rfl⟩ | ⟨x, rfl, hl, hm, hz, hcell, hwz⟩
  · exact ⟨[], rfl, Byt.nil w⟩
  · have hlen : ((zs.take len).map fun n => UInt8.ofNat n.toNat).length = len := by simp; omega
    refine ⟨(zs.take len).map fun n => UInt8.ofNat n.toNat, hlen, some x, cap, by rw [hlen], by omega, hm, fun h0 => ?_⟩
    rw [hlen] at h0
    obtain ⟨b, off, spot⟩ := x
    have hc := hcell 0 (by omega)
    have hspot : spot = none := by simpa [Addr.add] using World.cell?_spot hc
    subst hspot
    refine ⟨b, off, rfl, ?_, fun j hj => ?_⟩
    · have := World.block_lt_of_cell? w _ hc
      rw [addr_add] at this
      exact this
    · rw [hlen] at hj
      have hjz : j < zs.length := by omega
      have := hcell j hjz
      rw [addr_add] at this
      rw [this]
      have hw := hwz zs[j] (List.getElem_mem hjz)
      have hr : 0 ≤ zs[j] ∧ zs[j] ≤ 255 := by simpa [Lit.wf, IntKind.min, IntKind.max, IntKind.signed, IntKind.bits] using hw
      have e : zs.getD j 0 = zs[j] := by simp [hjz]
      rw [e]
      unfold bcell
      congr 2
      simp only [List.getElem_map, List.getElem_take]
      rw [UInt8.toNat_ofNat']
      omega
end Go.Proofs.YthgdgkdnidjdgaaDoor

/-
  How arguments of the law's own struct type read: a number, a text, a hash; one by value, or a slice of them.
-/
namespace Go.Proofs.YthgdgkdnidjdgaaDoor
set_option maxRecDepth 20000
open Go.ChangeShapes Go.WideShapes Go.ChangeAt Go.RowKit Go.Deep

section
variable {H : Type} {enc : TypeId × Value → H} {w : World} {base : Nat} {spare : Nat → Bool} {held : Bool} {fuel : Nat} {cs : List Value} {x : DataW H × List MemPlace}

theorem trod_bytes (h : DataW.trod enc Tryd.prog w base spare held fuel 40 cs = some x) : ∃ v l, cs = [v] ∧ Byt w v l := by
  rcases open_ints Tryd.underlying40 Tryd.underlying5 (by kernel_rfl) h with ⟨rfl, _⟩ | ⟨a, len, cap, zs, rfl, _, hl, hm, hz, _, hcell, hwz⟩
  · exact ⟨_, [], rfl, Byt.nil w⟩
  · have hlz : len ≤ zs.length := by rw [hz]; split <;> omega
    have hlen : ((zs.take len).map fun n => UInt8.ofNat n.toNat).length = len := by simp; omega
    refine ⟨_, (zs.take len).map fun n => UInt8.ofNat n.toNat, rfl, some a, cap, by rw [hlen], by omega, hm, fun h0 => ?_⟩
    rw [hlen] at h0
    obtain ⟨b, off, spot⟩ := a
    have hc := hcell 0 (by omega)
    have hspot : spot = none := by simpa [Addr.add] using World.cell?_spot hc
    subst hspot
    refine ⟨b, off, rfl, ?_, fun j hj => ?_⟩
    · have := World.block_lt_of_cell? w _ hc
      rw [addr_add] at this
      exact this
    · rw [hlen] at hj
      have hjz : j < zs.length := by omega
      have := hcell j hjz
      rw [addr_add] at this
      rw [this]
      have hw := hwz zs[j] (List.getElem_mem hjz)
      have hr : 0 ≤ zs[j] ∧ zs[j] ≤ 255 := by simpa [Lit.wf, IntKind.min, IntKind.max, IntKind.signed, IntKind.bits] using hw
      have e : zs.getD j 0 = zs[j] := by simp [hjz]
      rw [e]
      unfold bcell
      congr 2
      simp only [List.getElem_map, List.getElem_take]
      rw [UInt8.toNat_ofNat']
      omega

theorem trod_byte (h : DataW.trod enc Tryd.prog w base spare held fuel 5 cs = some x) : ∃ c : UInt8, cs = [bcell c] := by
  obtain ⟨n, rfl, _, hw⟩ := DataW.trod_int Tryd.underlying5 h
  have hr : 0 ≤ n ∧ n ≤ 255 := by simpa [Lit.wf, IntKind.min, IntKind.max, IntKind.signed, IntKind.bits] using hw
  refine ⟨UInt8.ofNat n.toNat, ?_⟩
  unfold bcell
  rw [UInt8.toNat_ofNat']
  congr 2
  omega

theorem trod_hash (h : DataW.trod enc Tryd.prog w base spare held fuel 27 cs = some x) : ∃ l : List UInt8, l.length = 32 ∧ cs = bcells l := by
  have hc : Tryd.prog.cellsOf 5 = 1 := by kernel_rfl
  have hc2 : Tryd.prog.cellsOf 27 = 32 := by kernel_rfl
  obtain ⟨xs, m, _, _, hlen, hxl, hi⟩ := DataW.trod_array under_hash h
  rw [hc2] at hlen
  rw [hc] at hi
  have hb : ∀ i, i < 32 → ∃ c : UInt8, cs[i]? = some (bcell c) := by
    intro i hi32
    have h1 := hi i hi32
    rw [List.getElem?_eq_getElem (by omega)] at h1
    obtain ⟨c, hcs⟩ := trod_byte h1
    refine ⟨c, ?_⟩
    have h2 := congrArg (fun l => l[0]?) hcs
    simpa [List.getElem?_take, List.getElem?_drop] using h2
  refine ⟨cs.map fun v => match v with | .int _ n => UInt8.ofNat n.toNat | _ => 0, by simpa using hlen, ?_⟩
  apply List.ext_getElem?
  intro i
  by_cases h32 : i < 32
  · obtain ⟨c, hci⟩ := hb i h32
    have hlt : i < cs.length := by omega
    rw [hci]
    rw [List.getElem?_eq_getElem hlt] at hci
    injection hci with hci
    simp only [bcells, List.map_map, List.getElem?_map, List.getElem?_eq_getElem hlt, Option.map_some, hci, Function.comp]
    simp [bcell]
  · rw [List.getElem?_eq_none (by omega), List.getElem?_eq_none (by simp [bcells]; omega)]

/-- What is known of a number, a text and a hash that came in together. -/
structure PutD where
  n : Nat
  v : Value
  t : List UInt8
  h : List UInt8
/-- The cells of one. -/
def PutD.cells (d : PutD) : List Value := .int .u64 (d.n : Int) :: d.v :: bcells d.h
/-- .. that can be read. -/
structure PutD.Ok (d : PutD) (w : World) : Prop where
  n : d.n < 18446744073709551616
  v : Byt w d.v d.t
  h : d.h.length = 32

/-- A slice of such things that came in. -/
def Puts (w : World) (v : Value) (ps : List PutD) : Prop :=
  ∃ A c, v = .slice A ps.length c ∧ ps.length ≤ c ∧ c ≤ maxLen ∧
    (0 < ps.length → ∃ b off, A = some ⟨b, off, none⟩ ∧ b < w.heap.size ∧ ∀ i (h : i < ps.length), ps[i].Ok w ∧ w.rangeAt b (off + i * 34) ps[i].cells)

end

/-- The bytes of one. -/
def PutD.enc (d : PutD) : List UInt8 := dg d.n ++ (tx d.t ++ d.h)
/-- The bytes of several, one behind the other. -/
def encs (ps : List PutD) : List UInt8 := (ps.map PutD.enc).flatten
theorem encs_succ (ps : List PutD) (i : Nat) (h : i < ps.length) : encs (ps.take (i + 1)) = encs (ps.take i) ++ ps[i].enc := by
  unfold encs
  rw [List.take_succ_eq_append_getElem h, List.map_append, List.flatten_append]
  simp
theorem encs_drop (ps : List PutD) (i : Nat) (h : i < ps.length) : (encs ps).drop (encs (ps.take i)).length = ps[i].enc ++ encs (ps.drop (i + 1)) := by
  have e : encs ps = encs (ps.take i) ++ (ps[i].enc ++ encs (ps.drop (i + 1))) := by
    unfold encs
    have h1 : ps = ps.take i ++ (ps[i] :: ps.drop (i + 1)) := by rw [← List.drop_eq_getElem_cons h, List.take_append_drop]
    have h2 : (ps.map PutD.enc).flatten = ((ps.take i ++ (ps[i] :: ps.drop (i + 1))).map PutD.enc).flatten := by rw [← h1]
    rw [h2, List.map_append, List.flatten_append, List.map_cons, List.flatten_cons]
  rw [e, List.drop_left]
theorem enc_len {d : PutD} (hn : d.n < 18446744073709551616) (hh : d.h.length = 32) (ht : d.t.length ≤ 300) : d.enc.length ≤ 400 := by
  have h1 := dg_len10 hn
  have h2 := dg_len10 (n := d.t.length) (by omega)
  unfold PutD.enc
  simp only [List.length_append, tx_len]
  omega
theorem Puts.keep {w w' : World} {v : Value} {ps : List PutD} (h : Puts w v ps) (hb : Below w.heap.size w w') : Puts w' v ps := by
  obtain ⟨A, c, e, h1, h2, h3⟩ := h
  refine ⟨A, c, e, h1, h2, fun h0 => ?_⟩
  obtain ⟨b, off, ea, hlt, hc⟩ := h3 h0
  refine ⟨b, off, ea, Nat.lt_of_lt_of_le hlt hb.size, fun i hi => ?_⟩
  obtain ⟨ok, hr⟩ := hc i hi
  exact ⟨⟨ok.n, ok.v.below hb, ok.h⟩, fun j u hu => (hb.cell (p := ⟨b, off + i * 34 + j, none⟩) hlt).trans (hr j u hu)⟩
theorem PutD.at_ {d : PutD} {w : World} {b o : Nat} (h : w.rangeAt b o d.cells) : w.cell? ⟨b, o, none⟩ = some (.int .u64 (d.n : Int)) ∧ w.cell? ⟨b, o + 1, none⟩ = some d.v ∧ w.rangeAt b (o + 2) (bcells d.h) :=
  ⟨h 0 _ rfl, h 1 _ rfl, fun j u hu => by
    have := h (j + 2) u (by rw [← hu]; rfl)
    rw [← this]
    congr 2
    omega⟩
theorem range_below {w w' : World} {B b o : Nat} {l : List Value} (h : w.rangeAt b o l) (hb : Below B w w') (hlt : b < B) : w'.rangeAt b o l := fun j u hu => (hb.cell (p := ⟨b, o + j, none⟩) hlt).trans (h j u hu)
end Go.Proofs.YthgdgkdnidjdgaaDoor

/-
  An attestation, as it came in by value.
-/
namespace Go.Proofs.YthgdgkdnidjdgaaDoor
set_option maxRecDepth 20000
open Go.ChangeShapes Go.WideShapes Go.ChangeAt Go.RowKit Go.Deep

theorem drop_part {α : Type} {cs l : List α} {o k : Nat} (h : (cs.drop o).take k = l) : cs.drop o = l ++ cs.drop (o + k) := by
  conv => lhs; rw [← List.take_append_drop k (cs.drop o), List.drop_drop, h]
section
variable {H : Type} {enc : TypeId × Value → H} {w : World} {base : Nat} {spare : Nat → Bool} {held : Bool} {fuel : Nat} {cs : List Value} {x : DataW H × List MemPlace}
theorem fields_at : ∃ f0 f1 f2 f3 f4 f5 f6 f7 : Field, Tryd.prog.underlying 36 = some (.struct #[f0, f1, f2, f3, f4, f5, f6, f7]) ∧ (f0.type, f0.offset) = (3, 0) ∧ (f1.type, f1.offset) = (3, 1) ∧ (f2.type, f2.offset) = (3, 2)
    ∧ (f3.type, f3.offset) = (3, 3) ∧ (f4.type, f4.offset) = (27, 4) ∧ (f5.type, f5.offset) = (3, 36) ∧ (f6.type, f6.offset) = (27, 37) ∧ (f7.type, f7.offset) = (27, 69) :=
  ⟨_, _, _, _, _, _, _, _, Tryd.underlying36, rfl, rfl, rfl, rfl, rfl, rfl, rfl, rfl⟩

theorem trod_at (h : DataW.trod enc Tryd.prog w base spare held fuel 36 cs = some x) : ∃ a : AtM, a.Ok ∧ cs = atl a := by
  obtain ⟨f0, f1, f2, f3, f4, f5, f6, f7, hu, e0, e1, e2, e3, e4, e5, e6, e7⟩ := fields_at
  injection e0 with t0 o0
  injection e1 with t1 o1
  injection e2 with t2 o2
  injection e3 with t3 o3
  injection e4 with t4 o4
  injection e5 with t5 o5
  injection e6 with t6 o6
  injection e7 with t7 o7
  obtain ⟨xs, m, _, _, hlen, hxl, hf⟩ := DataW.trod_struct hu h
  have hc : Tryd.prog.cellsOf 36 = 101 := by kernel_rfl
  have hci : Tryd.prog.cellsOf 3 = 1 := by kernel_rfl
  have hch : Tryd.prog.cellsOf 27 = 32 := by kernel_rfl
  rw [hc] at hlen
  have hx : xs.length = 8 := hxl
  have g0 := hf 0 f0 rfl
  have g1 := hf 1 f1 rfl
  have g2 := hf 2 f2 rfl
  have g3 := hf 3 f3 rfl
  have g4 := hf 4 f4 rfl
  have g5 := hf 5 f5 rfl
  have g6 := hf 6 f6 rfl
  have g7 := hf 7 f7 rfl
  rw [t0, o0, hci, List.getElem?_eq_getElem (by omega)] at g0
  rw [t1, o1, hci, List.getElem?_eq_getElem (by omega)] at g1
  rw [t2, o2, hci, List.getElem?_eq_getElem (by omega)] at g2
  rw [t3, o3, hci, List.getElem?_eq_getElem (by omega)] at g3
  rw [t4, o4, hch, List.getElem?_eq_getElem (by omega)] at g4
  rw [t5, o5, hci, List.getElem?_eq_getElem (by omega)] at g5
  rw [t6, o6, hch, List.getElem?_eq_getElem (by omega)] at g6
  rw [t7, o7, hch, List.getElem?_eq_getElem (by omega)] at g7
  obtain ⟨n0, c0, _, _⟩ := DataW.trod_int Tryd.underlying3 g0
  obtain ⟨n1, c1, _, _⟩ := DataW.trod_int Tryd.underlying3 g1
  obtain ⟨n2, c2, _, _⟩ := DataW.trod_int Tryd.underlying3 g2
  obtain ⟨n3, c3, _, _⟩ := DataW.trod_int Tryd.underlying3 g3
  obtain ⟨ha, h4, c4⟩ := trod_hash g4
  obtain ⟨n5, c5, _, _⟩ := DataW.trod_int Tryd.underlying3 g5
  obtain ⟨pa, h6, c6⟩ := trod_hash g6
  obtain ⟨tg, h7, c7⟩ := trod_hash g7
  refine ⟨⟨n0, n1, n2, n3, ha, n5, pa, tg⟩, ⟨h4, h6, h7⟩, ?_⟩
  have e : cs = cs.drop 0 := rfl
  rw [e, drop_part c0, drop_part c1, drop_part c2, drop_part c3, drop_part c4, drop_part c5, drop_part c6, drop_part c7, List.drop_eq_nil_of_le (by omega)]
  unfold atl
  simp only [List.append_nil, List.cons_append, List.nil_append]
theorem trod_att (h : DataW.trod enc Tryd.prog w base spare held fuel 36 cs = some x) : ∃ a : AtM, a.Ok ∧ cs = (atc a).toList := by
  obtain ⟨a, ho, e⟩ := trod_at h
  exact ⟨a, ho, e⟩
end
end Go.Proofs.YthgdgkdnidjdgaaDoor

/-
  Three attestations, as they came in by value.
-/
namespace Go.Proofs.YthgdgkdnidjdgaaDoor
set_option maxRecDepth 20000
open Go.ChangeShapes Go.WideShapes Go.ChangeAt Go.RowKit Go.Deep

/-- Three attestations' cells. -/
def at3c (a b c : AtM) : Array Value := (atl a ++ (atl b ++ atl c)).toArray
section
variable {H : Type} {enc : TypeId × Value → H} {w : World} {base : Nat} {spare : Nat → Bool} {held : Bool} {fuel : Nat} {cs : List Value} {x : DataW H × List MemPlace}
end
end Go.Proofs.YthgdgkdnidjdgaaDoor

/-
  AttAlikes: whatever attestations are alike are so either way, and through a third one; who attests, and the tag, count not: the law's walk, from what att's functions tell. Printed with genalikes.py.
-/
namespace Go.Proofs.YthgdgkdnidjdgaaDoor
set_option maxRecDepth 20000
open Go.RowKit
attribute [local go_sem ↓] exec_load_att exec_alloc_att exec_store_att exec_load_hash

/-- Three operations may come next. -/
theorem triple_on {P : Program} {md : Region.Mode} {l : List Oper} {Q : Exit → Act → World → Prop} {S : World → Prop} {i j k : Nat} {oi oj ok : Oper} {fuel : Nat} {listed : Array Bool} {a : Act} {w : World} (hi : l[i]? = some oi) (hj : l[j]? = some oj) (hk : l[k]? = some ok)
    (hr : Region.ready md l.toArray listed = [i, j, k]) (hwi : Region.wanted oi (yielded l.toArray a.tmps) = true) (hwj : Region.wanted oj (yielded l.toArray a.tmps) = true) (hwk : Region.wanted ok (yielded l.toArray a.tmps) = true)
    (h1 : ∀ K' : Act → World → Prop, Shut (∀ a w, S w → (S w → wpAnyH P md l.toArray Q S fuel (listed.setIfInBounds i true) a w) → K' a w) → Oper.wp P oi a w K' Q)
    (h2 : ∀ K' : Act → World → Prop, Shut (∀ a w, S w → (S w → wpAnyH P md l.toArray Q S fuel (listed.setIfInBounds j true) a w) → K' a w) → Oper.wp P oj a w K' Q)
    (h3 : ∀ K' : Act → World → Prop, Shut (∀ a w, S w → (S w → wpAnyH P md l.toArray Q S fuel (listed.setIfInBounds k true) a w) → K' a w) → Oper.wp P ok a w K' Q) : wpAnyH P md l.toArray Q S (fuel + 1) listed a w :=
  wpAnyH_ready hr (by simp) (AllReadyH.cons (by simpa using hi) (fun K hK => by rw [if_pos hwi]; exact h1 K hK) (AllReadyH.cons (by simpa using hj) (fun K hK => by rw [if_pos hwj]; exact h2 K hK) (AllReadyH.cons (by simpa using hk) (fun K hK => by rw [if_pos hwk]; exact h3 K hK) AllReadyH.nil)))
theorem wp_alloc_att {op : Oper} {ac : Act} {w : World} {K : Act → World → Prop} {Q : Exit → Act → World → Prop} (ho : op.op = .alloc 36) {n : Nat} (hn : w.heap.size = n) {Z : Array Value} (hZ : atc atZ = Z)
    (h : K (ac.put op.dst (.pointer (some ⟨n, 0, none⟩))) (w.alloc (.cells Z 36))) : op.wp Tryd.prog ac w K Q := by
  subst hn hZ
  unfold Oper.wp execOp
  simp only [ho, Sem.run_bind, Instr.alloc, run_zero_att, newVar, newRow, run_newObj_alloc, Sem.run_pure, Result.andThen_ok, Value.cells]
  exact h
theorem loadAtt_mid {w : World} {g o : Nat} {a : AtM} (hr : w.rangeAt g o (atl a)) (ho : a.Ok) : loadAtt (.pointer (some ⟨g, o, none⟩)) w = .ok (.value (.agg (atc a))) w := by
  have := run_loadAt_mid (P := Tryd.prog) w g o 36 (atl a) _ hr under_att rfl (by rw [size_att, atl_length ho])
  unfold loadAtt execOp
  simp only [Sem.run_bind, this, Result.andThen_ok, Sem.run_pure]
  rfl
theorem at3_ranges {w : World} {g : Nat} {a b c : AtM} {T : TypeId} (h : w.heap[g]? = some (.cells (at3c a b c) T (0, 0))) (ha : a.Ok) (hb : b.Ok) : w.rangeAt g 0 (atl a) ∧ w.rangeAt g 101 (atl b) ∧ w.rangeAt g 202 (atl c) := by
  have la := atl_length ha
  have lb := atl_length hb
  refine ⟨fun j u hu => ?_, fun j u hu => ?_, fun j u hu => ?_⟩
  all_goals
    have hj := (List.getElem?_eq_some_iff.1 hu).1
    rw [cell_blk h]
    unfold at3c
    rw [List.getElem?_toArray]
  · rw [Nat.zero_add, List.getElem?_append_left hj]
    exact hu
  · rw [List.getElem?_append_right (by omega), la, List.getElem?_append_left (by omega), show 101 + j - 101 = j from by omega]
    exact hu
  · rw [List.getElem?_append_right (by omega), la, List.getElem?_append_right (by omega), lb, show 202 + j - 101 - 101 = j from by omega]
    exact hu
/-- Three attestations' variables. -/
def TriAt (w0 : World) (CA CB CC : Array Value) (s7 s8 s9 : Value) (wx : World) : Prop := ∃ p7 p8 p9, s7 = .pointer (some ⟨p7, 0, none⟩) ∧ s8 = .pointer (some ⟨p8, 0, none⟩) ∧ s9 = .pointer (some ⟨p9, 0, none⟩) ∧
  wx.heap[p7]? = some (.cells CA 36 (0, 0)) ∧ wx.heap[p8]? = some (.cells CB 36 (0, 0)) ∧ wx.heap[p9]? = some (.cells CC 36 (0, 0)) ∧ Below w0.heap.size w0 wx

end Go.Proofs.YthgdgkdnidjdgaaDoor

/-
  Lists of elements of several cells each: what a slice reads as; a row of the call's own, an append onto it; as an argument. For any type of elements (Elt: its cells, their number, the types).
-/
namespace Go.Proofs.YthgdgkdnidjdgaaDoor
set_option maxRecDepth 20000
open Go.RowKit

/-- A type of elements: the cells of one, what one must be, how many cells, its type and its slices' type. -/
structure Elt {α : Type} (ec : α → List Value) (P : α → Prop) (n : Nat) (T SL : TypeId) : Prop where
  pos : 0 < n
  len : ∀ a, P a → (ec a).length = n
  one : ∀ a, ∀ u ∈ ec a, u.oneCell' = true
  under : Tryd.prog.underlying SL = some (.slice T)
  cells : Tryd.prog.cellsOf T = n
  info : ∃ i z, Tryd.prog.info? T = some i ∧ i.zero = some z ∧ i.size = n ∧ i.bytes ≤ 100000 ∧ z.cells.size = n

section
variable {α : Type} (ec : α → List Value) (n : Nat)
/-- From address A on the elements L lie. -/
def ElsA (w : World) (A : Option Addr) (L : List α) : Prop :=
  0 < L.length → ∃ b off, A = some ⟨b, off, none⟩ ∧ b < w.heap.size ∧ ∀ j (h : j < L.length), w.rangeAt b (off + j * n) (ec L[j])
/-- The value is a slice that reads as the elements L. -/
def Els (w : World) (v : Value) (L : List α) : Prop := ∃ A c, v = .slice A L.length c ∧ L.length ≤ c ∧ c ≤ maxLen ∧ ElsA ec n w A L
/-- The value is a slice of the call's own, from block B on, that holds the elements L. -/
def OwnE (T : TypeId) (B : Nat) (w : World) (v : Value) (L : List α) : Prop := w.ownsRow B T n v L.length (L.map ec).flatten
end
theorem range_kept {w w' : World} {b o : Nat} {l : List Value} (h : w.rangeAt b o l) (hk : w'.heap[b]? = w.heap[b]?) : w'.rangeAt b o l := fun j u hu => (World.cell?_of_block hk).trans (h j u hu)
section
variable {α : Type} {ec : α → List Value} {n : Nat} {w w' : World} {A : Option Addr} {v : Value} {L : List α}
theorem ElsA.nil (w : World) (A : Option Addr) : ElsA ec n w A [] := fun h => absurd h (by simp)
theorem ElsA.below (h : ElsA ec n w A L) (hb : Below w.heap.size w w') : ElsA ec n w' A L := fun hl => by
  obtain ⟨b, off, e, hlt, hc⟩ := h hl
  exact ⟨b, off, e, Nat.lt_of_lt_of_le hlt hb.size, fun j hj => range_kept (hc j hj) (hb.block b hlt)⟩
theorem Els.nil (w : World) : Els ec n w (.slice none 0 0) [] := ⟨none, 0, rfl, Nat.le_refl _, Nat.zero_le _, ElsA.nil _ _⟩
theorem Els.below (h : Els ec n w v L) (hb : Below w.heap.size w w') : Els ec n w' v L := by
  obtain ⟨A, c, rfl, h1, h2, h3⟩ := h
  exact ⟨A, c, rfl, h1, h2, h3.below hb⟩
theorem Els.len (h : Els ec n w v L) : L.length ≤ maxLen := by
  obtain ⟨_, _, _, h1, h2, _⟩ := h
  omega
theorem Els.shape (h : Els ec n w v L) : ∃ A c, v = .slice A L.length c := by
  obtain ⟨A, c, e, _⟩ := h
  exact ⟨A, c, e⟩
theorem Els.at_ {k c : Nat} (h : Els ec n w (.slice A k c) L) : k = L.length ∧ L.length ≤ c ∧ c ≤ maxLen ∧ ElsA ec n w A L := by
  obtain ⟨A', c', e, h1, h2, h3⟩ := h
  injection e with e1 e2 e3
  subst e1 e2 e3
  exact ⟨rfl, h1, h2, h3⟩
end
section
variable {α : Type} {ec : α → List Value} {P : α → Prop} {n : Nat} {T SL : TypeId} {w w' : World} {v : Value} {L : List α} {B : Nat}
theorem Elt.ecs_length (E : Elt ec P n T SL) (hL : ∀ a ∈ L, P a) : (L.map ec).flatten.length = L.length * n := by
  induction L with
  | nil => simp
  | cons a L ih =>
    rw [List.map_cons, List.flatten_cons, List.length_append, ih (fun x hx => hL x (List.mem_cons_of_mem _ hx)), E.len a (hL a (by simp)), List.length_cons, Nat.succ_mul, Nat.add_comm]
theorem Elt.ecs_at (E : Elt ec P n T SL) (hL : ∀ a ∈ L, P a) {j : Nat} (hj : j < L.length) {k : Nat} (hk : k < n) : (L.map ec).flatten[j * n + k]? = (ec L[j])[k]? := by
  induction L generalizing j with
  | nil => simp at hj
  | cons a L ih =>
    have ha := E.len a (hL a (by simp))
    rw [List.map_cons, List.flatten_cons]
    cases j with
    | zero =>
      rw [Nat.zero_mul, Nat.zero_add, List.getElem?_append_left (by rw [ha]; exact hk)]
      rfl
    | succ j =>
      rw [List.getElem?_append_right (by rw [ha, Nat.succ_mul]; omega), ha, show (j + 1) * n + k - n = j * n + k from by rw [Nat.succ_mul]; omega]
      exact ih (fun x hx => hL x (List.mem_cons_of_mem _ hx)) (by simpa using hj)
theorem Elt.ecs_get (E : Elt ec P n T SL) (hL : ∀ a ∈ L, P a) {i : Nat} {u : Value} (h : (L.map ec).flatten[i]? = some u) : ∃ (hj : i / n < L.length), (ec L[i / n])[i % n]? = some u := by
  have hi := (List.getElem?_eq_some_iff.1 h).1
  rw [E.ecs_length hL] at hi
  have hj : i / n < L.length := (Nat.div_lt_iff_lt_mul E.pos).2 hi
  refine ⟨hj, ?_⟩
  have := E.ecs_at hL hj (Nat.mod_lt i E.pos)
  rw [Nat.div_add_mod' i n, h] at this
  exact this.symm
theorem Elt.ecs_one (E : Elt ec P n T SL) (L : List α) : ∀ u ∈ (L.map ec).flatten, u.oneCell' = true := by
  intro u hu
  obtain ⟨l, hl, hu⟩ := List.mem_flatten.1 hu
  obtain ⟨a, _, rfl⟩ := List.mem_map.1 hl
  exact E.one a u hu
theorem OwnE.nil (B : Nat) (w : World) : OwnE ec n T B w (.slice none 0 0) [] := World.ownsRow_nil _ _ _ _
theorem OwnE.els (h : OwnE ec n T B w v L) (E : Elt ec P n T SL) (hL : ∀ a ∈ L, P a) : Els ec n w v L := by
  rcases h.2 with ⟨rfl, h0⟩ | ⟨g, cap, cur, rfl, _, hh, hn, hm, hs, ht⟩
  · have : L = [] := List.eq_nil_of_length_eq_zero h0
    subst this
    exact Els.nil w
  · refine ⟨_, cap, rfl, hn, hm, fun _ => ⟨g, 0, rfl, lt_of_block hh, fun j hj k u hu => ?_⟩⟩
    have hk : k < n := by
      have := (List.getElem?_eq_some_iff.1 hu).1
      rw [E.len _ (hL _ (List.getElem_mem hj))] at this
      exact this
    have hlt : j * n + k < L.length * n := Nat.lt_of_lt_of_le (show j * n + k < (j + 1) * n by rw [Nat.succ_mul]; omega) (Nat.mul_le_mul_right n hj)
    rw [Nat.zero_add, cell_of_row w g _ _ _ (0, 0) hh, ← Array.getElem?_toList]
    have e := E.ecs_at hL hj hk
    rw [hu, ← ht, List.getElem?_take_of_lt hlt] at e
    exact e
theorem OwnE.more (h : OwnE ec n T B w v L) {B' : Nat} (hB : B' ≤ B) : OwnE ec n T B' w v L := by
  refine ⟨h.1, ?_⟩
  rcases h.2 with h0 | ⟨g, cap, cur, e, hg, r⟩
  · exact .inl h0
  · exact .inr ⟨g, cap, cur, e, by omega, r⟩
theorem OwnE.keep (h : OwnE ec n T B w v L) (hk : ∀ b, b < w.heap.size → v.ownBlock = some b → w'.heap[b]? = w.heap[b]?) : OwnE ec n T B w' v L := by
  refine ⟨h.1, ?_⟩
  rcases h.2 with h0 | ⟨g, cap, cur, rfl, hg, hh, r⟩
  · exact .inl h0
  · exact .inr ⟨g, cap, cur, rfl, hg, (hk g (lt_of_block hh) rfl).trans hh, r⟩
theorem OwnE.below (h : OwnE ec n T B w v L) (hb : Below w.heap.size w w') : OwnE ec n T B w' v L := h.keep fun b hlt _ => hb.block b hlt
theorem OwnE.alloc (h : OwnE ec n T B w v L) (o : Obj) : OwnE ec n T B (w.alloc o) v L := h.below ((Below.refl _ _).alloc (Nat.le_refl _) o)
theorem OwnE.far (h : OwnE ec n T B w v L) {g : Nat} (hg : w.grownBy w' (some g)) (hB : g < B) : OwnE ec n T B w' v L := h.keep fun b hlt e => hg.block b hlt (fun e' => by
  have := (World.ownsRow.lt h b e).1
  injection e' with e'
  omega)
theorem OwnE.set (h : OwnE ec n T B w v L) {g : Nat} (hB : g < B) (i : Nat) (u : Value) : OwnE ec n T B (w.setCell ⟨g, i, none⟩ u) v L := h.keep fun b _ e => Below.heap_setCell w _ u b (fun e' => by
  have := (World.ownsRow.lt h b e).1
  simp only at e'
  omega)
theorem OwnE.row (h : OwnE ec n T B w v L) {g : Nat} {C : Array Value} (hB : g < B) : OwnE ec n T B (w.setRow g C) v L := h.keep fun b _ e => setRow_other w g b _ (fun e' => by
  have := (World.ownsRow.lt h b e).1
  omega)
theorem OwnE.shape (h : OwnE ec n T B w v L) : ∃ A c, v = .slice A L.length c := by
  rcases h.2 with ⟨rfl, h0⟩ | ⟨g, cap, cur, rfl, _⟩
  · exact ⟨none, 0, by rw [h0]⟩
  · exact ⟨_, cap, rfl⟩
/-- One element in a block of its own. -/
theorem els_one (w : World) (a : α) (C : Array Value) (T : TypeId) (h : (ec a).toArray = C) : Els ec n (w.alloc (.cells C T)) (.slice (some ⟨w.heap.size, 0, none⟩) 1 1) [a] := by
  subst h
  refine ⟨_, 1, rfl, Nat.le_refl _, by unfold maxLen; omega, fun _ => ⟨w.heap.size, 0, rfl, by simp, fun j hj k u hu => ?_⟩⟩
  obtain rfl : j = 0 := by simpa using hj
  rw [Nat.zero_mul, Nat.zero_add, cell_blk (heap_alloc_new w _) k]
  simpa using hu
theorem Elt.run_append (E : Elt ec P n T SL) {x : Value} {l m : List α} (ty : TypeId) (hm : ∀ a ∈ m, P a) (hv : OwnE ec n T B w v l) (hx : Els ec n w x m) (hs : l.length + m.length ≤ 1000000) (hB : B ≤ w.heap.size) :
    ∃ v' w', (Builtin.append_ #[SL, SL] ty #[v, x]).run Tryd.prog w = .ok v' w' ∧ OwnE ec n T B w' v' (l ++ m) ∧ w.grownBy w' v.ownBlock ∧ (v'.ownBlock = v.ownBlock ∨ v'.ownBlock = some w.heap.size) := by
  obtain ⟨i0, z, hi, hz0, hz1, hz2, hzc⟩ := E.info
  obtain ⟨A, c, rfl, hmc, hcm, hr⟩ := hx
  have hlm : (l ++ m).length = l.length + m.length := by simp
  rcases A with _ | ad
  · have h0 : m = [] := by
      rcases m with _ | ⟨x, m⟩
      · rfl
      · obtain ⟨_, _, h, _⟩ := hr (by simp)
        cases h
    subst h0
    refine ⟨v, w, ?_, by rw [List.append_nil]; exact hv, World.grownBy.refl w _, .inl rfl⟩
    rcases hv.2 with ⟨rfl, h0⟩ | ⟨g, cap, cur, rfl, _, _, hnc, _⟩
    · simp [Builtin.append_, run_underlying E.under, sizeOf, typeInfo, hi, Builtin.lenOf, Builtin.firstCells]
    · simp [Builtin.append_, run_underlying E.under, sizeOf, typeInfo, hi, Builtin.lenOf, Builtin.firstCells, hnc, storeCells]
  · have hcells : ∀ j u, (m.map ec).flatten[j]? = some u → w.cell? (ad.add j) = some u := by
      intro j u hu
      obtain ⟨hj, hu'⟩ := E.ecs_get hm hu
      obtain ⟨b, off, e, _, hc⟩ := hr (Nat.lt_of_le_of_lt (Nat.zero_le _) hj)
      injection e with e
      subst e
      rw [addr_add]
      have := hc (j / n) hj (j % n) u hu'
      rw [show off + j / n * n + j % n = off + j from by rw [Nat.add_assoc, Nat.div_add_mod' j n]] at this
      exact this
    have hby : (l.length + m.length) * i0.bytes ≤ 140737488355328 := Nat.le_trans (Nat.mul_le_mul hs hz2) (by decide)
    obtain ⟨v', w', hrun, h2, h3, _, h5⟩ := run_append_own_at (P := Tryd.prog) w B SL ty T i0 z n i0.bytes E.under hi hz0 hz1 rfl hzc E.pos v l.length (l.map ec).flatten hv ad m.length c (m.map ec).flatten (E.ecs_length hm) hcells (E.ecs_one m) (by unfold maxLen; omega) hby hB
    refine ⟨v', w', hrun, ?_, h3, h5⟩
    unfold OwnE
    rw [hlm, List.map_append, List.flatten_append]
    exact h2
theorem Elt.wp_append (E : Elt ec P n T SL) {o : Oper} {a : Act} {K : Act → World → Prop} {Q : Exit → Act → World → Prop} (s y : Operand) (ho : o.op = .call { callee := .builtin .append, args := #[s, y], argTypes := #[SL, SL] })
    {x : Value} {l m : List α} (hes : a.eval s = v) (hey : a.eval y = x) (hm : ∀ a ∈ m, P a) (hv : OwnE ec n T B w v l) (hx : Els ec n w x m) (hs : l.length + m.length ≤ 1000000) (hB : B ≤ w.heap.size)
    (h : ∀ v' w', OwnE ec n T B w' v' (l ++ m) → w.grownBy w' v.ownBlock → (v'.ownBlock = v.ownBlock ∨ v'.ownBlock = some w.heap.size) → K (a.put o.dst v') w') : o.wp Tryd.prog a w K Q := by
  obtain ⟨v', w', hrun, h2, h3, h4⟩ := E.run_append (w := w) o.type hm hv hx hs hB
  unfold Oper.wp execOp
  simp only [ho, resolve, invoke, builtin, Sem.run_bind, Sem.run_pure, Result.andThen_ok, List.map_toArray, List.map_cons, List.map_nil, hes, hey, hrun]
  exact h v' w' h2 h3 h4
theorem Elt.wpList_append (E : Elt ec P n T SL) {ops : Array Oper} {rest : List Oper} {o : Oper} {a : Act} {Q : Exit → Act → World → Prop} (hgd : o.guard = none) (s y : Operand) (ho : o.op = .call { callee := .builtin .append, args := #[s, y], argTypes := #[SL, SL] })
    {x : Value} {l m : List α} (hes : a.eval s = v) (hey : a.eval y = x) (hm : ∀ a ∈ m, P a) (hv : OwnE ec n T B w v l) (hx : Els ec n w x m) (hs : l.length + m.length ≤ 1000000) (hB : B ≤ w.heap.size)
    (h : ∀ v' w', OwnE ec n T B w' v' (l ++ m) → w.grownBy w' v.ownBlock → (v'.ownBlock = v.ownBlock ∨ v'.ownBlock = some w.heap.size) → wpList Tryd.prog ops Q rest (a.put o.dst v') w') : wpList Tryd.prog ops Q (o :: rest) a w :=
  wpList_plain hgd fun _ hK => E.wp_append s y ho hes hey hm hv hx hs hB fun v' w' h2 h3 h4 => hK _ _ (h v' w' h2 h3 h4)
end
end Go.Proofs.YthgdgkdnidjdgaaDoor

/-
  A list of elements, as it came in by a slice.
-/
namespace Go.Proofs.YthgdgkdnidjdgaaDoor
set_option maxRecDepth 20000
open Go.ChangeShapes Go.WideShapes Go.ChangeAt Go.RowKit Go.Deep

section
variable {H : Type} {enc : TypeId × Value → H} {w : World} {base : Nat} {spare : Nat → Bool} {held : Bool} {fuel : Nat} {cs : List Value} {x : DataW H × List MemPlace}
theorem Elt.trod {α : Type} {ec : α → List Value} {P : α → Prop} {n : Nat} {T SL : TypeId} (E : Elt ec P n T SL) (a0 : α) (h0 : P a0)
    (el : ∀ {fuel : Nat} {cs : List Value} {x : DataW H × List MemPlace}, DataW.trod enc Tryd.prog w base spare held fuel T cs = some x → ∃ a, P a ∧ cs = ec a)
    (h : DataW.trod enc Tryd.prog w base spare held fuel SL cs = some x) : ∃ v L, cs = [v] ∧ Els ec n w v L ∧ ∀ a ∈ L, P a := by
  rcases open_slice E.under h with ⟨rfl, _⟩ | ⟨a, len, cap, m, k, D, Pl, rfl, _, hl, hm, hmm, _, hi⟩
  · exact ⟨_, [], rfl, ⟨none, 0, rfl, Nat.le_refl _, Nat.zero_le _, ElsA.nil _ _⟩, fun t ht => by cases ht⟩
  · have hlm : len ≤ m := by rw [hmm]; split <;> omega
    rw [E.cells] at hi
    have hex : ∀ i, ∃ t : α, P t ∧ (i < len → ∀ j u, (ec t)[j]? = some u → w.cell? (a.add (i * n + j)) = some u) := by
      intro i
      by_cases hil : i < len
      · obtain ⟨cs', hcs, ht⟩ := hi i (by omega)
        obtain ⟨t, hb, rfl⟩ := el ht
        obtain ⟨_, hlen', hat⟩ := World.cells?_some hcs
        refine ⟨t, hb, fun _ j u hu => ?_⟩
        have hj : j < n := by
          have := (List.getElem?_eq_some_iff.1 hu).1
          rw [E.len t hb] at this
          exact this
        rw [← Go.Deep.add_add, hat j hj]
        exact hu
      · exact ⟨a0, h0, fun h => absurd h hil⟩
    refine ⟨_, (List.range len).map fun i => (hex i).choose, rfl, ⟨some a, cap, by simp, by simpa using hl, hm, fun h0' => ?_⟩, fun t ht => ?_⟩
    · have h1 : 0 < len := by simpa using h0'
      have hpos := E.pos
      obtain ⟨b, off, spot⟩ := a
      have hl0 : 0 < (ec (hex 0).choose).length := by rw [E.len _ (hex 0).choose_spec.1]; exact hpos
      have hsp := (hex 0).choose_spec.2 h1 0 _ (List.getElem?_eq_getElem hl0)
      have hspot : spot = none := by simpa [Addr.add] using World.cell?_spot hsp
      subst hspot
      refine ⟨b, off, rfl, ?_, fun i hil => ?_⟩
      · have := World.block_lt_of_cell? w _ hsp
        rw [addr_add] at this
        exact this
      · have hil' : i < len := by simpa using hil
        simp only [List.getElem_map, List.getElem_range]
        intro j u hu
        have := (hex i).choose_spec.2 hil' j u hu
        rw [addr_add] at this
        rw [← this, Nat.add_assoc]
    · obtain ⟨i, _, rfl⟩ := List.mem_map.1 ht
      exact (hex i).choose_spec.1
end
end Go.Proofs.YthgdgkdnidjdgaaDoor

/-
  Numbers as elements of slices: each is one cell.
-/
namespace Go.Proofs.YthgdgkdnidjdgaaDoor
set_option maxRecDepth 20000
open Go.RowKit

/-- A slice that reads as the numbers l: each is one cell. -/
def icl (n : Int) : List Value := [.int .i64 n]
theorem info_int : (Tryd.prog.info? 3).map (fun i => (i.zero, i.size, decide (i.bytes ≤ 100000))) = some (some (.int .i64 0), 1, true) := by kernel_rfl
/-- Numbers as elements of slices. -/
theorem eltIc : Elt icl (fun _ => True) 1 3 28 := by
  refine ⟨by omega, fun _ _ => rfl, fun a u hu => by obtain rfl := List.mem_singleton.1 hu; rfl, by kernel_rfl, by kernel_rfl, ?_⟩
  obtain ⟨i, hi, h⟩ := Option.map_eq_some_iff.1 info_int
  injection h with h1 h
  injection h with h2 h3
  exact ⟨i, _, hi, h1, h2, of_decide_eq_true h3, rfl⟩
end Go.Proofs.YthgdgkdnidjdgaaDoor

/-
  Attestations as elements of slices; one amid a row, loaded.
-/
namespace Go.Proofs.YthgdgkdnidjdgaaDoor
set_option maxRecDepth 20000
open Go.RowKit

theorem info_at : (Tryd.prog.info? 36).map (fun i => (i.zero, i.size, decide (i.bytes ≤ 100000))) = some (some (.agg (atc atZ)), 101, true) := by kernel_rfl
/-- Attestations as elements of slices. -/
theorem eltAt : Elt atl AtM.Ok 101 36 24 := by
  refine ⟨by omega, fun _ h => atl_length h, atl_one, by kernel_rfl, by kernel_rfl, ?_⟩
  obtain ⟨i, hi, h⟩ := Option.map_eq_some_iff.1 info_at
  injection h with h1 h
  injection h with h2 h3
  exact ⟨i, _, hi, h1, h2, of_decide_eq_true h3, by show (atc atZ).size = 101; exact atc_size atZ_ok⟩
/-- A load of an attestation amid a row. -/
theorem loadAtt_in {w : World} {g o : Nat} {a : AtM} (hr : w.rangeAt g o (atl a)) (ho : a.Ok) : loadAtt (.pointer (some ⟨g, o, none⟩)) w = .ok (.value (.agg (atc a))) w := by
  have := run_loadAt_mid (P := Tryd.prog) w g o 36 (atl a) _ hr under_att rfl (by rw [size_att, atl_length ho])
  unfold loadAtt execOp
  simp only [Sem.run_bind, this, Result.andThen_ok, Sem.run_pure]
  rfl
end Go.Proofs.YthgdgkdnidjdgaaDoor

/-
  A slice of two attestations: built as a whole.
-/
namespace Go.Proofs.YthgdgkdnidjdgaaDoor
set_option maxRecDepth 20000
open Go.RowKit

theorem fold_putSg : ∀ (vs : List Value) (k : Nat) (C : Array Value), (vs.zipIdx k).foldl (fun cs x => cs.setIfInBounds x.2 x.1) C = putAt C k vs
  | [], _, _ => rfl
  | v :: r, k, C => by
    simp only [List.zipIdx_cons, List.foldl_cons]
    exact fold_putSg r (k + 1) _
theorem fold_putSgO : ∀ (vs : List Value) (k o : Nat) (C : Array Value), (vs.zipIdx k).foldl (fun cs x => cs.setIfInBounds (o + x.2) x.1) C = putAt C (o + k) vs
  | [], _, _, _ => rfl
  | v :: r, k, o, C => by
    simp only [List.zipIdx_cons, List.foldl_cons]
    rw [fold_putSgO r (k + 1) o]
    rfl
noncomputable def sliceAt2 (u v : Value) (w : World) : Result Next := Sem.run Tryd.prog (execOp (fun x => match x with
  | .tmp 0 => u
  | _ => v) { dst := none, op := .buildSlice 24 2 #[(0, .tmp 0), (1, .tmp 1)], type := 0, pos := "", after := #[], guard := none }) w
theorem exec_slice_at2 (r : Operand → Value) (x y : Operand) (dst : Option Tmp) (ty : TypeId) (pos : String) (after : Array Edge) (guard : Option (Nat × Bool)) (w : World) :
    Sem.run Tryd.prog (execOp r { dst := dst, op := .buildSlice 24 2 #[(0, x), (1, y)], type := ty, pos := pos, after := after, guard := guard }) w = sliceAt2 (r x) (r y) w := by
  unfold sliceAt2 execOp
  simp
theorem sliceAt2_eq (a b : AtM) (ha : a.Ok) (hb : b.Ok) (w : World) : sliceAt2 (.agg (atc a)) (.agg (atc b)) w = .ok (.value (.slice (some ⟨w.heap.size, 0, none⟩) 2 2)) (w.alloc (.cells (atl a ++ atl b).toArray 36)) := by
  have hsz : (atc a).size = 101 := atc_size ha
  have hsz2 : (atc b).size = 101 := atc_size hb
  have e0 : (atc a).zipIdx = ((atl a).zipIdx).toArray := by unfold atc; simp
  have e2 : (atc b).zipIdx = ((atl b).zipIdx).toArray := by unfold atc; simp
  have hs : ∀ (l : List (Value × Nat)) (C : Array Value), (l.foldl (fun cs x => cs.setIfInBounds x.2 x.1) C).size = C.size := fun l => by
    induction l with
    | nil => intro C; rfl
    | cons x l ih => intro C; rw [List.foldl_cons, ih, Array.size_setIfInBounds]
  unfold sliceAt2
  go_simp
  have e := putAt_mid (atl a) [] (atl atZ) (atl atZ) (by rw [atl_length ha, atl_length atZ_ok])
  have e' := putAt_mid (atl b) (atl a) (atl atZ) [] (by rw [atl_length hb, atl_length atZ_ok])
  simp only [List.nil_append, List.append_nil, List.length_nil] at e e'
  rw [atl_length ha] at e'
  rw [← fold_putSg] at e
  rw [← e, ← Nat.add_zero 101, ← fold_putSgO] at e'
  exact congrArg (fun C => w.alloc (.cells C 36)) e'
theorem els_two (w : World) (a b : AtM) (ha : a.Ok) : Els atl 101 (w.alloc (.cells (atl a ++ atl b).toArray 36)) (.slice (some ⟨w.heap.size, 0, none⟩) 2 2) [a, b] := by
  refine ⟨_, 2, rfl, Nat.le_refl _, by unfold maxLen; omega, fun _ => ⟨w.heap.size, 0, rfl, by simp, fun j hj k u hu => ?_⟩⟩
  rw [Nat.zero_add, cell_blk (heap_alloc_new w _) (j * 101 + k), List.getElem?_toArray]
  match j, hj with
  | 0, _ =>
    have hu' : (atl a)[k]? = some u := hu
    have hk := (List.getElem?_eq_some_iff.1 hu').1
    rw [Nat.zero_mul, Nat.zero_add, List.getElem?_append_left hk]
    exact hu'
  | 1, _ =>
    have hu' : (atl b)[k]? = some u := hu
    rw [List.getElem?_append_right (by rw [atl_length ha]; omega), atl_length ha, show 1 * 101 + k - 101 = k from by omega]
    exact hu'
  | j + 2, h => exact absurd h (by simp)
end Go.Proofs.YthgdgkdnidjdgaaDoor

/-
  Certificates as plain data: which are right, which have bytes, what is made of attestations, which one bytes begin with. No function of the program.
-/
namespace Go.Proofs.YthgdgkdnidjdgaaDoor
set_option maxRecDepth 20000

/-- A signature. -/
structure SgM where
  bo : Int
  tg : List UInt8
  deriving DecidableEq
def SgM.Ok (s : SgM) : Prop := s.tg.length = 32
/-- A certificate. -/
structure CtM where
  att : AtM
  sg : List SgM
  deriving DecidableEq
structure CtM.Ok (c : CtM) : Prop where
  att : c.att.Ok
  sg : ∀ s ∈ c.sg, s.Ok
def ctZ : CtM := ⟨atZ, []⟩
theorem ctZ_ok : ctZ.Ok := ⟨atZ_ok, fun s hs => absurd hs (by simp [ctZ])⟩

/-- An attestation with a signature. -/
def withC (a : AtM) (s : SgM) : AtM := { a with bo := s.bo, tg := s.tg }
theorem withC_ok {a : AtM} {s : SgM} (ha : a.Ok) (hs : s.Ok) : (withC a s).Ok := ⟨ha.ha, ha.pa, hs⟩
/-- Do the signers rise behind one, up to another? -/
def risesB (top : Int) : Int → List SgM → Bool
  | _, [] => true
  | last, s :: r => (decide (last < s.bo) && decide (s.bo ≤ top)) && risesB top s.bo r
theorem risesB_mem {top : Int} : ∀ {l : List SgM} {last : Int}, risesB top last l = true → ∀ s ∈ l, last < s.bo ∧ s.bo ≤ top
  | [], _, _, s, hs => by cases hs
  | x :: r, last, h, s, hs => by
    unfold risesB at h
    simp only [Bool.and_eq_true, decide_eq_true_eq] at h
    obtain ⟨⟨h1, h2⟩, h3⟩ := h
    rcases List.mem_cons.1 hs with rfl | hs
    · exact ⟨h1, h2⟩
    · have := risesB_mem h3 s hs
      omega
theorem risesB_nodup {top : Int} : ∀ {l : List SgM} {last : Int}, risesB top last l = true → (l.map (·.bo)).Nodup
  | [], _, _ => List.nodup_nil
  | x :: r, last, h => by
    unfold risesB at h
    simp only [Bool.and_eq_true, decide_eq_true_eq] at h
    rw [List.map_cons, List.nodup_cons]
    refine ⟨fun hm => ?_, risesB_nodup h.2⟩
    obtain ⟨s, hs, e⟩ := List.mem_map.1 hm
    have := (risesB_mem h.2 s hs).1
    omega
theorem risesB_len {l : List SgM} {top : Nat} (h : risesB (top : Int) 0 l = true) : l.length ≤ top := by
  have := unlike_le top (l.map (·.bo)) (risesB_nodup h) (fun x hx => by
    obtain ⟨y, hy, rfl⟩ := List.mem_map.1 hx
    have := risesB_mem h y hy
    omega)
  rwa [List.length_map] at this
/-- One more signer, greater than all. -/
theorem risesB_more {top k : Int} {s : SgM} : ∀ {l : List SgM} {last : Int}, risesB k last l = true → last ≤ k → k < s.bo → s.bo ≤ top → k ≤ top → risesB top last (l ++ [s]) = true
  | [], last, _, h0, h1, h2, _ => by
    show ((decide (last < s.bo) && decide (s.bo ≤ top)) && true) = true
    simp only [Bool.and_true, Bool.and_eq_true, decide_eq_true_eq]
    omega
  | x :: r, last, h, h0, h1, h2, h3 => by
    unfold risesB at h
    simp only [Bool.and_eq_true, decide_eq_true_eq] at h
    rw [List.cons_append]
    unfold risesB
    simp only [Bool.and_eq_true, decide_eq_true_eq]
    exact ⟨⟨h.1.1, by omega⟩, risesB_more h.2 h.1.2 h1 h2 h3⟩
theorem risesB_top {top k : Int} : ∀ {l : List SgM} {last : Int}, risesB k last l = true → k ≤ top → risesB top last l = true
  | [], _, _, _ => rfl
  | x :: r, last, h, h1 => by
    unfold risesB at h ⊢
    simp only [Bool.and_eq_true, decide_eq_true_eq] at h ⊢
    exact ⟨⟨h.1.1, by omega⟩, risesB_top h.2 h1⟩

/-- Has its attestation nobody, and no tag? -/
def bareC (c : CtM) : Bool := decide (c.att.bo = 0) && decide (c.att.tg = z32)
theorem bareC_iff {c : CtM} : bareC c = true ↔ c.att.bo = 0 ∧ c.att.tg = z32 := by
  unfold bareC
  simp only [Bool.and_eq_true, decide_eq_true_eq]
/-- Is it right? -/
def rightC (n : Int) (c : CtM) : Bool := decide (quoS n ≠ 0) && (decide (c.sg.length = quoS n) && (risesB n 0 c.sg && (bareC c && c.sg.all fun s => rightA (withC c.att s))))
/-- Has it bytes? -/
def mayC (c : CtM) : Bool := bareC c && (mayA (withC c.att ⟨1, z32⟩) && (decide (0 < c.sg.length) && risesB 21 0 c.sg))
def bytesG (s : SgM) : List UInt8 := dg s.bo.toNat ++ s.tg
/-- Its bytes. -/
def bytesC (c : CtM) : List UInt8 := taggedA c.att ++ (dg c.sg.length ++ (c.sg.map bytesG).flatten)

/-- The signatures of the first ones, by their By up to k. -/
def sigsC (l : List AtM) (q : Nat) : Nat → List SgM
  | 0 => []
  | k + 1 => if (sigsC l q k).length < q then match l.find? (fun a => decide (a.bo = ((k + 1 : Nat) : Int))) with
    | some a => sigsC l q k ++ [⟨((k + 1 : Nat) : Int), a.tg⟩]
    | none => sigsC l q k
    else sigsC l q k
/-- What is made: 1 is told where there is no quorum or nothing, or two are not alike, 7 where one is not right, 3 where there are too few. -/
def makeC (n : Int) (l : List AtM) : CtM × Int := match l with
  | [] => (ctZ, 1)
  | a0 :: r => if quoS n = 0 then (ctZ, 1) else if ((a0 :: r).all fun a => rightA a && decide (a.bo ≤ n)) = false then (ctZ, 7) else if ((a0 :: r).all fun a => alikeA a a0) = false then (ctZ, 1)
    else if (sigsC (a0 :: r) (quoS n) n.toNat).length < quoS n then (ctZ, 3) else (⟨withC a0 ⟨0, z32⟩, sigsC (a0 :: r) (quoS n) n.toNat⟩, 0)

theorem sigsC_len (l : List AtM) (q : Nat) : ∀ k, (sigsC l q k).length ≤ q
  | 0 => Nat.zero_le _
  | k + 1 => by
    have ih := sigsC_len l q k
    unfold sigsC
    split
    · split
      · simp only [List.length_append, List.length_cons, List.length_nil]
        omega
      · exact ih
    · exact ih
theorem sigsC_rises (l : List AtM) (q : Nat) : ∀ k : Nat, risesB (k : Int) 0 (sigsC l q k) = true
  | 0 => rfl
  | k + 1 => by
    have ih := sigsC_rises l q k
    unfold sigsC
    split
    · split
      · exact risesB_more ih (by omega) (by simp only; omega) (by simp only; omega) (by omega)
      · exact risesB_top ih (by omega)
    · exact risesB_top ih (by omega)
theorem sigsC_mem (l : List AtM) (q : Nat) : ∀ k, ∀ s ∈ sigsC l q k, ∃ a ∈ l, a.bo = s.bo ∧ a.tg = s.tg
  | 0, s, hs => by cases hs
  | k + 1, s, hs => by
    have ih := sigsC_mem l q k s
    unfold sigsC at hs
    split at hs
    · split at hs
      · rename_i a ha
        rcases List.mem_append.1 hs with hs | hs
        · exact ih hs
        · obtain rfl := List.mem_singleton.1 hs
          refine ⟨a, List.mem_of_find?_eq_some ha, ?_, rfl⟩
          have := List.find?_some ha
          exact of_decide_eq_true this
      · exact ih hs
    · exact ih hs
theorem alike_with {a b : AtM} (h : alikeA a b = true) : withC b ⟨a.bo, a.tg⟩ = a := by
  obtain ⟨h1, h2, h3, h4, h5, h6⟩ := alikeA_iff.1 h
  obtain ⟨bo, ki, vi, ph, ha, pv, pa, tg⟩ := a
  unfold withC
  simp only at h1 h2 h3 h4 h5 h6
  rw [← h1, ← h2, ← h3, ← h4, ← h5, ← h6]
theorem quoS_top {n : Int} (h : quoS n ≠ 0) : 1 ≤ n ∧ n ≤ 21 ∧ 0 < quoS n ∧ n < 2 * (quoS n : Int) := by
  unfold quoS at h ⊢
  split at h
  · rename_i hc
    rw [if_pos hc]
    omega
  · exact absurd rfl h
/-- What an error is told of is nothing; what is made has as many signers as the quorum. -/
theorem makeC_cases (n : Int) (l : List AtM) : ((makeC n l).1 = ctZ ∧ (makeC n l).2 ≠ 0) ∨
    ((makeC n l).2 = 0 ∧ ∃ a0 r, l = a0 :: r ∧ quoS n ≠ 0 ∧ (∀ a ∈ l, rightA a = true ∧ a.bo ≤ n) ∧ (∀ a ∈ l, alikeA a a0 = true) ∧ (sigsC l (quoS n) n.toNat).length = quoS n ∧ (makeC n l).1 = ⟨withC a0 ⟨0, z32⟩, sigsC l (quoS n) n.toNat⟩) := by
  cases l with
  | nil => exact .inl ⟨rfl, by show (1 : Int) ≠ 0; decide⟩
  | cons a0 r =>
    unfold makeC
    simp only
    split
    · exact .inl ⟨rfl, by decide⟩
    · rename_i h1
      split
      · exact .inl ⟨rfl, by decide⟩
      · rename_i h2
        split
        · exact .inl ⟨rfl, by decide⟩
        · rename_i h3
          split
          · exact .inl ⟨rfl, by decide⟩
          · rename_i h4
            right
            have h2' : ((a0 :: r).all fun a => rightA a && decide (a.bo ≤ n)) = true := by simpa only [Bool.not_eq_false] using h2
            have h3' : ((a0 :: r).all fun a => alikeA a a0) = true := by simpa only [Bool.not_eq_false] using h3
            refine ⟨rfl, a0, r, rfl, h1, fun a ha => ?_, fun a ha => List.all_eq_true.1 h3' a ha, ?_, rfl⟩
            · have := List.all_eq_true.1 h2' a ha
              rw [Bool.and_eq_true, decide_eq_true_eq] at this
              exact this
            · have := sigsC_len (a0 :: r) (quoS n) n.toNat
              omega
theorem made_right {n : Int} {l : List AtM} (h : (makeC n l).2 = 0) : rightC n (makeC n l).1 = true := by
  rcases makeC_cases n l with ⟨_, h2⟩ | ⟨_, a0, r, rfl, h1, h2, h3, h4, h5⟩
  · exact absurd h h2
  · rw [h5]
    have hn := quoS_top h1
    have hr := sigsC_rises (a0 :: r) (quoS n) n.toNat
    rw [show ((n.toNat : Nat) : Int) = n from by omega] at hr
    unfold rightC
    simp only [Bool.and_eq_true, decide_eq_true_eq, List.all_eq_true]
    refine ⟨h1, h4, hr, bareC_iff.2 ⟨rfl, rfl⟩, fun s hs => ?_⟩
    obtain ⟨a, ha, e1, e2⟩ := sigsC_mem _ _ _ s hs
    have e : withC (withC a0 ⟨0, z32⟩) s = a := by
      have := alike_with (h3 a ha)
      rw [← this]
      unfold withC
      rw [e1, e2]
    rw [e]
    exact (h2 a ha).1
theorem makeC_ok {n : Int} {l : List AtM} (hl : ∀ a ∈ l, a.Ok) : (makeC n l).1.Ok := by
  rcases makeC_cases n l with ⟨h, _⟩ | ⟨_, a0, r, rfl, _, _, _, _, h5⟩
  · rw [h]
    exact ctZ_ok
  · rw [h5]
    refine ⟨withC_ok (hl a0 (by simp)) (by show z32.length = 32; simp [z32]), fun s hs => ?_⟩
    obtain ⟨a, ha, _, e2⟩ := sigsC_mem _ _ _ s hs
    show s.tg.length = 32
    rw [← e2]
    exact (hl a ha).tg
/-- Two that are made for the same number of parts have a signer in common. -/
theorem made_meet {n : Int} {l m : List AtM} (hl : (makeC n l).2 = 0) (hm : (makeC n m).2 = 0) : ∃ x, x ∈ (makeC n l).1.sg.map (·.bo) ∧ x ∈ (makeC n m).1.sg.map (·.bo) := by
  have K : ∀ {l : List AtM}, (makeC n l).2 = 0 → quoS n ≠ 0 ∧ (makeC n l).1.sg.length = quoS n ∧ risesB n 0 (makeC n l).1.sg = true := by
    intro l h
    have := made_right h
    unfold rightC at this
    simp only [Bool.and_eq_true, decide_eq_true_eq] at this
    exact ⟨this.1, this.2.1, this.2.2.1⟩
  obtain ⟨h0, h1, h2⟩ := K hl
  obtain ⟨_, k1, k2⟩ := K hm
  have hn := quoS_top h0
  obtain ⟨N, hN⟩ : ∃ N : Nat, n = (N : Int) := ⟨n.toNat, by omega⟩
  have R : ∀ {s : List SgM}, risesB n 0 s = true → ∀ x ∈ s.map (·.bo), 1 ≤ x ∧ x ≤ (N : Int) := by
    intro s h x hx
    obtain ⟨y, hy, rfl⟩ := List.mem_map.1 hx
    have := risesB_mem h y hy
    omega
  exact lists_meet (n := N) (risesB_nodup h2) (risesB_nodup k2) (R h2) (R k2) (by rw [List.length_map, List.length_map, h1, k1]; omega)

/-- So many signatures read from a place on. -/
def rdSigs (l : List UInt8) (p : Nat) (r : Bool) : Nat → List SgM × Nat × Bool
  | 0 => ([], p, r)
  | k + 1 => ((rdSigs l p r k).1 ++ [⟨((rdUpto 21 l (rdSigs l p r k).2.1 (rdSigs l p r k).2.2).1 : Int), (rdHash l (rdUpto 21 l (rdSigs l p r k).2.1 (rdSigs l p r k).2.2).2.1 (rdUpto 21 l (rdSigs l p r k).2.1 (rdSigs l p r k).2.2).2.2).1⟩],
      (rdHash l (rdUpto 21 l (rdSigs l p r k).2.1 (rdSigs l p r k).2.2).2.1 (rdUpto 21 l (rdSigs l p r k).2.1 (rdSigs l p r k).2.2).2.2).2)
/-- What is read from a place on, whether it may be or not. -/
def rawC (l : List UInt8) (p : Nat) (r : Bool) : CtM × Nat × Bool :=
  let b := rdUpto 3 l p r
  let c := rdUpto 1099511627776 l b.2.1 b.2.2
  let d := rdUpto 3 l c.2.1 c.2.2
  let e := rdHash l d.2.1 d.2.2
  let f := rdUpto 1099511627776 l e.2.1 e.2.2
  let g := rdHash l f.2.1 f.2.2
  let h := rdUpto 21 l g.2.1 g.2.2
  let s := rdSigs l h.2.1 h.2.2 h.1
  (⟨⟨0, b.1, c.1, d.1, e.1, f.1, g.1, z32⟩, s.1⟩, s.2)
def ctIs (l : List UInt8) (p : Nat) (r : Bool) : Bool := (rawC l p r).2.2 && mayC (rawC l p r).1
def ctOf (l : List UInt8) (p : Nat) (r : Bool) : CtM := if ctIs l p r = true then (rawC l p r).1 else ctZ
theorem rdSigs_ok (l : List UInt8) (p : Nat) (r : Bool) : ∀ k, ∀ s ∈ (rdSigs l p r k).1, s.Ok
  | 0, s, hs => by cases hs
  | k + 1, s, hs => by
    unfold rdSigs at hs
    rcases List.mem_append.1 hs with hs | hs
    · exact rdSigs_ok l p r k s hs
    · obtain rfl := List.mem_singleton.1 hs
      exact rdHash_32 _ _ _
theorem rdSigs_len (l : List UInt8) (p : Nat) (r : Bool) : ∀ k, (rdSigs l p r k).1.length = k
  | 0 => rfl
  | k + 1 => by
    unfold rdSigs
    rw [List.length_append, rdSigs_len l p r k]
    rfl
theorem rawC_ok (l : List UInt8) (p : Nat) (r : Bool) : (rawC l p r).1.Ok := ⟨⟨rdHash_32 _ _ _, rdHash_32 _ _ _, rfl⟩, rdSigs_ok _ _ _ _⟩
theorem ctOf_ok (l : List UInt8) (p : Nat) (r : Bool) : (ctOf l p r).Ok := by
  unfold ctOf
  split
  · exact rawC_ok l p r
  · exact ctZ_ok
/-- What was put is read. -/
theorem rdSigs_back {L r : List UInt8} : ∀ (ts : List SgM) (p : Nat), (∀ s ∈ ts, s.Ok ∧ 1 ≤ s.bo ∧ s.bo ≤ 21) → L.drop p = (ts.map bytesG).flatten ++ r →
    ∀ k, k ≤ ts.length → rdSigs L p true k = (ts.take k, p + ((ts.take k).map bytesG).flatten.length, true) := by
  intro ts p hm h k
  induction k with
  | zero => intro _; simp [rdSigs]
  | succ k ih =>
    intro hk
    have hlt : k < ts.length := by omega
    have e1 : ts = ts.take k ++ (ts[k] :: ts.drop (k + 1)) := by
      rw [← List.drop_eq_getElem_cons hlt, List.take_append_drop]
    have hd : L.drop (p + ((ts.take k).map bytesG).flatten.length) = bytesG ts[k] ++ (((ts.drop (k + 1)).map bytesG).flatten ++ r) := by
      have h' := h
      rw [e1] at h'
      simp only [List.map_append, List.map_cons, List.flatten_append, List.flatten_cons, List.append_assoc] at h'
      exact drop_more h'
    obtain ⟨o1, o2, o3⟩ := hm _ (List.getElem_mem hlt)
    rw [List.take_succ_eq_append_getElem hlt]
    obtain ⟨⟨bo, tg⟩, hs⟩ : ∃ s, ts[k] = s := ⟨_, rfl⟩
    rw [hs] at hd o1 o2 o3 ⊢
    have o1' : tg.length = 32 := o1
    simp only at o2 o3
    obtain ⟨b, rfl⟩ := nat_of (i := bo) (by omega)
    have eb : bytesG ⟨(b : Int), tg⟩ = dg b ++ tg := by
      unfold bytesG
      rw [Int.toNat_natCast]
    rw [eb, List.append_assoc] at hd
    have d2 := drop_more hd
    unfold rdSigs
    rw [ih (by omega)]
    simp only [rdUpto_at (m := 21) hd (by omega) (by omega), rdHash_at d2 o1']
    simp only [List.map_append, List.map_cons, List.map_nil, List.flatten_append, List.flatten_cons, List.flatten_nil, List.append_nil, List.length_append, eb, o1', Nat.add_assoc]
theorem rawC_back {c : CtM} {L r : List UInt8} {p : Nat} (ho : c.Ok) (hm : mayC c = true) (h : L.drop p = bytesC c ++ r) : rawC L p true = (c, p + (bytesC c).length, true) := by
  unfold mayC at hm
  simp only [Bool.and_eq_true, decide_eq_true_eq] at hm
  obtain ⟨hb, ha, hl, hr⟩ := hm
  obtain ⟨hb1, hb2⟩ := bareC_iff.1 hb
  obtain ⟨_, _, h3, h4, h5, h6, h7, h8, h9⟩ := mayA_iff ha
  have hsg : ∀ s ∈ c.sg, s.Ok ∧ 1 ≤ s.bo ∧ s.bo ≤ 21 := fun s hs => ⟨ho.sg s hs, by have := risesB_mem hr s hs; omega, by have := risesB_mem hr s hs; omega⟩
  have hlen : c.sg.length ≤ 21 := risesB_len (top := 21) hr
  obtain ⟨⟨bo, ki, vi, ph, hh, pv, pa, tg⟩, sg⟩ := c
  obtain ⟨⟨k1, k2, k3⟩, _⟩ := ho
  unfold withC at h3 h4 h5 h6 h7 h8 h9
  simp only at hb1 hb2 h3 h4 h5 h6 h7 h8 h9 k1 k2 k3 hsg hlen
  subst hb1 hb2
  obtain ⟨x2, rfl⟩ := nat_of (i := ki) (by omega)
  obtain ⟨x3, rfl⟩ := nat_of (i := vi) (by omega)
  obtain ⟨x4, rfl⟩ := nat_of (i := ph) (by omega)
  obtain ⟨x5, rfl⟩ := nat_of (i := pv) (by omega)
  unfold bytesC taggedA at h ⊢
  simp only [Int.toNat_natCast, List.append_assoc] at h ⊢
  have d1 := drop_more h
  have d2 := drop_more d1
  have d3 := drop_more d2
  have d4 := drop_more d3
  rw [k1] at d4
  have d5 := drop_more d4
  have d6 := drop_more d5
  rw [k2] at d6
  have d7 := drop_more d6
  unfold rawC
  simp only [rdUpto_at (m := 3) h (by omega) (by omega), rdUpto_at (m := 1099511627776) d1 (by omega) (by omega), rdUpto_at (m := 3) d2 (by omega) (by omega), rdHash_at d3 k1,
    rdUpto_at (m := 1099511627776) d4 (by omega) (by omega), rdHash_at d5 k2, rdUpto_at (m := 21) d6 (by omega) (by omega), rdSigs_back sg _ hsg d7 sg.length (Nat.le_refl _), List.take_length]
  simp [k1, k2, Nat.add_assoc]
theorem ctIs_back {c : CtM} {L r : List UInt8} {p : Nat} (ho : c.Ok) (hm : mayC c = true) (h : L.drop p = bytesC c ++ r) : ctIs L p true = true ∧ ctOf L p true = c ∧ (rawC L p true).2.1 = p + (bytesC c).length := by
  have e := rawC_back ho hm h
  have hi : ctIs L p true = true := by unfold ctIs; rw [e, hm]; rfl
  exact ⟨hi, by unfold ctOf; rw [if_pos hi, e], by rw [e]⟩
end Go.Proofs.YthgdgkdnidjdgaaDoor

/-
  The reference's Quorum; the law's 'parts' tells whether numbers are unlike parts of so many.
-/
namespace Go.Proofs.YthgdgkdnidjdgaaDoor
set_option maxRecDepth 20000
open Go.RowKit

set_option maxHeartbeats 1600000 in
theorem refQuorum_any (n : Int) (w : World) : Calls Tryd.prog 30 #[.int .i64 n] w fun e w' => e = .returned (.int .i64 (quoS n : Int)) ∧ w = w' := by
  go_enter Tryd.func30, Tryd.ntmps30
  go_wp2_with fail
  go_loopw [3] (fun si wr => ∃ f : Nat, f ≤ 11 ∧ si = .int .i64 (f : Int) ∧ Hid (w = wr) ∧ Hid (∀ k : Nat, k < f → n ≠ 2 * (k : Int) + 1)) (fun si _ => 11 - (intOf si).toNat)
  case atStart => exact ⟨0, Nat.zero_le _, rfl, hid rfl, hid fun k hk => absurd hk (by omega)⟩
  case round =>
    obtain ⟨f, hf, rfl, HW, HNE⟩ := hrel
    by_cases hlt : f ≤ 10
    · have h10 : (f : Int) ≤ 10 := by omega
      by_cases he : n = 2 * (f : Int) + 1
      · have HE := hid he
        have hq : (n == 2 * (f : Int) + 1) = true := by rw [he]; exact beq_self_eq_true _
        clear he
        go_wp2_with fail
        go_ret
        refine ⟨ret_i64 ?_, HW.out⟩
        have := HE.out
        unfold quoS
        rw [if_pos (by omega)]
        omega
      · have HE := hid he
        have hq : (n == 2 * (f : Int) + 1) = false := by rw [beq_eq_false_iff_ne]; exact he
        clear he
        go_wp2_with fail
        go_roundw
        case rel =>
          refine ⟨f + 1, by omega, by go_num, HW, hid fun k hk => ?_⟩
          by_cases h : k < f
          · exact HNE.out k h
          · obtain rfl : k = f := by omega
            exact HE.out
        case measure => simp [intOf]; omega
    · have h10 : ¬ (f : Int) ≤ 10 := by omega
      go_wp2_with fail
      go_ret
      refine ⟨ret_i64 ?_, HW.out⟩
      unfold quoS
      rw [if_neg fun h => HNE.out (n / 2).toNat (by omega) (by omega)]
      rfl

/-- The value is a slice that reads as the integers l. -/
def Ints (w : World) (v : Value) (l : List Int) : Prop := ∃ A c, v = .slice A l.length c ∧ (0 < l.length → ∃ b off, A = some ⟨b, off, none⟩ ∧ ∀ j, j < l.length → w.cell? ⟨b, off + j, none⟩ = some (.int .i64 (l.getD j 0)))
theorem row_ints {w : World} {a : Option Addr} {len cap : Nat} {zs : List Int} (h : IsRow .i64 w a len cap zs) : ∃ l : List Int, l.length = len ∧ Ints w (.slice a len cap) l := by
  rcases h with ⟨rfl, rfl, rfl, rfl⟩ | ⟨x, rfl, hl, hm, hz, hcell, hwz⟩
  · exact ⟨[], rfl, none, 0, rfl, fun h => absurd h (by simp)⟩
  · have hlen : (zs.take len).length = len := by simp; omega
    refine ⟨zs.take len, hlen, some x, cap, by rw [hlen], fun h0 => ?_⟩
    rw [hlen] at h0
    obtain ⟨b, off, spot⟩ := x
    have hc := hcell 0 (by omega)
    have hspot : spot = none := by simpa [Addr.add] using World.cell?_spot hc
    subst hspot
    refine ⟨b, off, rfl, fun j hj => ?_⟩
    rw [hlen] at hj
    have := hcell j (by omega)
    rw [addr_add] at this
    rw [this, List.getD_eq_getElem?_getD, List.getD_eq_getElem?_getD, List.getElem?_take_of_lt hj]

/-- The first i numbers are of 1 to n, and unlike. -/
def partsP (l : List Int) (n : Int) (i : Nat) : Prop := ∀ j, j < i → (1 ≤ l.getD j 0 ∧ l.getD j 0 ≤ n) ∧ ∀ k, k < j → l.getD k 0 ≠ l.getD j 0
noncomputable def partsT (l : List Int) (n : Int) : Bool := @decide (l.length ≤ 30 ∧ partsP l n l.length) (Classical.propDecidable _)
theorem partsT_true {l : List Int} {n : Int} : partsT l n = true ↔ l.length ≤ 30 ∧ partsP l n l.length := by
  unfold partsT
  exact @decide_eq_true_iff _ (Classical.propDecidable _)
theorem partsT_false {l : List Int} {n : Int} (h : ¬ (l.length ≤ 30 ∧ partsP l n l.length)) : partsT l n = false := by
  unfold partsT
  exact @decide_eq_false _ (Classical.propDecidable _) h
theorem partsP_all {l : List Int} {n : Int} (h : partsP l n l.length) : (∀ x ∈ l, 1 ≤ x ∧ x ≤ n) ∧ l.Nodup := by
  constructor
  · intro x hx
    obtain ⟨j, hj, rfl⟩ := List.getElem_of_mem hx
    have := (h j hj).1
    rwa [List.getD_eq_getElem?_getD, List.getElem?_eq_getElem hj] at this
  · rw [List.nodup_iff_pairwise_ne, List.pairwise_iff_getElem]
    intro i j hi hj hij
    have := (h j hj).2 i hij
    rwa [List.getD_eq_getElem?_getD, List.getD_eq_getElem?_getD, List.getElem?_eq_getElem hi, List.getElem?_eq_getElem hj] at this
theorem parts_meet {n : Int} {a b : List Int} (h0 : quoS n ≠ 0) (ha : partsT a n = true) (hb : partsT b n = true) (la : a.length = quoS n) (lb : b.length = quoS n) : ∃ i k, i < a.length ∧ k < b.length ∧ a.getD i 0 = b.getD k 0 := by
  have ha := partsP_all (partsT_true.1 ha).2
  have hb := partsP_all (partsT_true.1 hb).2
  unfold quoS at h0 la lb
  by_cases h : 1 ≤ n ∧ n ≤ 21 ∧ n % 2 = 1
  · rw [if_pos h] at la lb
    obtain ⟨m, rfl⟩ : ∃ m : Nat, n = (m : Int) := ⟨n.toNat, by omega⟩
    obtain ⟨x, hxa, hxb⟩ := lists_meet (n := m) ha.2 hb.2 ha.1 hb.1 (by rw [la, lb]; omega)
    obtain ⟨i, hi, hia⟩ := List.getElem_of_mem hxa
    obtain ⟨k, hk, hkb⟩ := List.getElem_of_mem hxb
    refine ⟨i, k, hi, hk, ?_⟩
    rw [List.getD_eq_getElem?_getD, List.getD_eq_getElem?_getD, List.getElem?_eq_getElem hi, List.getElem?_eq_getElem hk, Option.getD_some, Option.getD_some, hia, hkb]
  · rw [if_neg h] at h0
    exact absurd rfl h0

end Go.Proofs.YthgdgkdnidjdgaaDoor

/-
  What the listed variables hold when the call begins: the constants.
-/
namespace Go.Proofs.YthgdgkdnidjdgaaDoor
set_option maxRecDepth 20000
open Go.ChangeShapes Go.WideShapes Go.ChangeAt Go.RowKit

def kz : List Int := kl.map wv
theorem laid_sha : (Rows.laid_tithing_sha_constants : DataW Unit) = Lib.tabData .u32 kz := by kernel_rfl
theorem kz_at {i : Nat} (h : i < 64) : kz.getD i 0 = wv (kc i) := by
  have hl : kl.length = 64 := rfl
  unfold kz kc
  simp [List.getD_eq_getElem?_getD, hl, h]
theorem gSha : Tryd.prog.globalNamed "tithing/sha.constants" = some 0 := by kernel_rfl
theorem tSha : (Tryd.prog.globals[0]?).map (·.type) = some 113 := by kernel_rfl
theorem gRef : Tryd.prog.globalNamed "tithing/tithingref02.constants" = some 1 := by kernel_rfl
theorem tRef : (Tryd.prog.globals[1]?).map (·.type) = some 113 := by kernel_rfl
theorem kst_of {name : String} {g : Nat} {W : World} {rest : List (String × DataW Unit)} (hg : Tryd.prog.globalNamed name = some g) (ht : (Tryd.prog.globals[g]?).map (·.type) = some 113)
    (h : laidMet Tryd.prog ((name, Lib.tabData .u32 kz) :: rest) W) : Kst g W := by
  have hT := Lib.tabIs_of_head hg ht Tryd.underlying113 Tryd.underlying102 (by kernel_rfl) (by kernel_rfl) h
  have hc : ∀ j, j < 64 → W.cell? ⟨g, j, none⟩ = some (.int .u32 (wv (kc j))) := fun j hj => by
    rw [hT.cell hg j (by simp [kz]; exact hj), kz_at hj]
  exact ⟨World.block_lt_of_cell? W _ (hc 0 (by omega)), hc⟩
theorem one_met {W : World} (h : laidMetH Tryd.prog [("tithing/sha.constants", Rows.laid_tithing_sha_constants)] W) : Kst 0 W := by
  rw [MakeChecks.laidMetH_plain _ _ _ (by kernel_rfl), laid_sha] at h
  exact kst_of gSha tSha h
theorem door_one (os : Os) (args : Array Value) : laidMetH Tryd.prog [("tithing/sha.constants", Rows.laid_tithing_sha_constants)] ((World.doorLaid Tryd.prog 400 os).forCall (fun _ _ => 0) ⟨#[], args, []⟩).memory :=
  laidMetH_of_parts3 (fuel := 8) (laidMet_of_run' 8 (by kernel_rfl) (by kernel_rfl)) (by kernel_rfl) (by kernel_rfl)
end Go.Proofs.YthgdgkdnidjdgaaDoor

/-
  Arrays that came in by value: what is known of their cells.
-/
namespace Go.Proofs.YthgdgkdnidjdgaaDoor
set_option maxRecDepth 20000
open Go.ChangeShapes Go.WideShapes Go.ChangeAt Go.RowKit

theorem laid_ref : (Rows.laid_tithing_tithingref02_constants : DataW Unit) = Lib.tabData .u32 kz := by kernel_rfl
theorem okWide_arr' {P : Program} {w : World} {r : Reach} {base : Nat} {v : Value} {t e : TypeId} {n : Nat} (ht : P.underlying t = some (.array n e)) (h : Value.okWide P w r base t v) : ∃ cs, v = .agg cs ∧ cs.size = P.cellsOf t := by
  cases v <;> simp [Value.okWide, ht] at h
  exact ⟨_, rfl, h.1⟩

theorem open_arr {H : Type} {enc : TypeId × Value → H} {w : World} {base : Nat} {spare : Nat → Bool} {held : Bool} {fuel : Nat} {t e : TypeId} {n : Nat} {k : IntKind} {cs : List Value} {x : DataW H × List MemPlace}
    (ht : Tryd.prog.underlying t = some (.array n e)) (he : Tryd.prog.underlying e = some (.int k)) (hce : Tryd.prog.cellsOf e = 1) (hct : Tryd.prog.cellsOf t = n)
    (h : DataW.trod enc Tryd.prog w base spare held fuel t cs = some x) : cs.length = n ∧ ∀ i, i < n → ∃ z, cs[i]? = some (.int k z) ∧ (Lit.int k z).wf = true := by
  obtain ⟨xs, m, _, _, hl, hn, hel⟩ := DataW.trod_array ht h
  rw [hct] at hl
  refine ⟨hl, fun i hi => ?_⟩
  have h1 := hel i hi
  rw [hce, Nat.mul_one, List.getElem?_eq_getElem (by omega : i < xs.length)] at h1
  obtain ⟨z, e1, e2, e3⟩ := DataW.trod_int he h1
  refine ⟨z, ?_, ?_⟩
  · have hi2 : i < cs.length := by omega
    have : (cs.drop i).take 1 = [cs[i]] := by
      rw [List.drop_eq_getElem_cons hi2]
      rfl
    rw [this] at e1
    rw [List.getElem?_eq_getElem hi2]
    injection e1 with e1 _
    rw [e1]
  · exact e3

def zof : Option Value → Nat
  | some (.int _ z) => z.toNat
  | _ => 0
theorem bytes_of {cs : List Value} {n : Nat} (hl : cs.length = n) (h : ∀ i, i < n → ∃ z, cs[i]? = some (.int .u8 z) ∧ (Lit.int .u8 z).wf = true) : ∃ f : Nat → UInt8, cs = (fcells n fun j => bcell (f j)).toList := by
  refine ⟨fun i => UInt8.ofNat (zof cs[i]?), ?_⟩
  apply List.ext_getElem?
  intro i
  rw [fcells_list]
  by_cases hi : i < n
  · obtain ⟨z, e, hw⟩ := h i hi
    have hr : 0 ≤ z ∧ z ≤ 255 := by simpa [Lit.wf, IntKind.min, IntKind.max, IntKind.signed, IntKind.bits] using hw
    rw [if_pos hi, e]
    have ez : zof cs[i]? = z.toNat := by rw [e]; rfl
    show some (Value.int .u8 z) = some (.int .u8 ((UInt8.ofNat (zof cs[i]?)).toNat : Int))
    rw [ez, UInt8.toNat_ofNat', show ((z.toNat % 2 ^ 8 : Nat) : Int) = z from by omega]
  · rw [if_neg hi, List.getElem?_eq_none (by omega)]
theorem words_of {cs : List Value} {n : Nat} (hl : cs.length = n) (h : ∀ i, i < n → ∃ z, cs[i]? = some (.int .u32 z) ∧ (Lit.int .u32 z).wf = true) : ∃ f : Nat → UInt32, cs = (fcells n fun j => wc (f j)).toList := by
  refine ⟨fun i => UInt32.ofNat (zof cs[i]?), ?_⟩
  apply List.ext_getElem?
  intro i
  rw [fcells_list]
  by_cases hi : i < n
  · obtain ⟨z, e, hw⟩ := h i hi
    have hr : 0 ≤ z ∧ z ≤ 4294967295 := by simpa [Lit.wf, IntKind.min, IntKind.max, IntKind.signed, IntKind.bits] using hw
    rw [if_pos hi, e]
    have ez : zof cs[i]? = z.toNat := by rw [e]; rfl
    show some (Value.int .u32 z) = some (.int .u32 (wv (UInt32.ofNat (zof cs[i]?))))
    rw [ez, wv_of _ (by omega), show ((z.toNat : Nat) : Int) = z from by omega]
  · rw [if_neg hi, List.getElem?_eq_none (by omega)]
theorem laid_tail {P : Program} {x : String × DataW Unit} {r : List (String × DataW Unit)} {w : World} (h : laidMet P (x :: r) w) : laidMet P r w := laidMet.tail h
theorem two_met {W : World} (h : laidMetH Tryd.prog [("tithing/sha.constants", Rows.laid_tithing_sha_constants), ("tithing/tithingref02.constants", Rows.laid_tithing_tithingref02_constants)] W) : Kst 0 W ∧ Kst 1 W := by
  rw [MakeChecks.laidMetH_plain _ _ _ (by kernel_rfl), laid_sha, laid_ref] at h
  exact ⟨kst_of gSha tSha h, kst_of gRef tRef (laid_tail h)⟩
theorem door_two (os : Os) (args : Array Value) : laidMetH Tryd.prog [("tithing/sha.constants", Rows.laid_tithing_sha_constants), ("tithing/tithingref02.constants", Rows.laid_tithing_tithingref02_constants)] ((World.doorLaid Tryd.prog 400 os).forCall (fun _ _ => 0) ⟨#[], args, []⟩).memory :=
  laidMetH_of_parts3 (fuel := 8) (laidMet_of_run' 8 (by kernel_rfl) (by kernel_rfl)) (by kernel_rfl) (by kernel_rfl)
end Go.Proofs.YthgdgkdnidjdgaaDoor

/-
  The document's answer for an attestation's bytes: tithingref08.Bytes.
-/
namespace Go.Proofs.YthgdgkdnidjdgaaDoor
set_option maxRecDepth 20000
open Go.RowKit
attribute [local go_sem ↓] exec_load_att

end Go.Proofs.YthgdgkdnidjdgaaDoor
