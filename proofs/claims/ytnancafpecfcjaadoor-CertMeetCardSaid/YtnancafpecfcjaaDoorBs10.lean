/-
  AtAwake Row Puts AtArg AtArg3 AtAlikesWalk CtPure Els EltAt CtWords EltIc AtBytes CtOk ElsArg CtArg AtTwo Parts CtWith CtBare: what each of them says stands at its head.
-/
import Derived.Test.YtnancafpecfcjaaDoorBs9
import Derived.Test.YtnancafpecfcjaaDoorBs1
import Derived.ProofKit
import Derived.OpenShut
import Derived.ShutString
import Derived.ChangeOld
import Derived.Test.YtnancafpecfcjaaDoorBs2
import Derived.Deep.Slices
import Derived.ChangeArms
import Derived.Test.YtnancafpecfcjaaDoorBs3
import Derived.Test.YtnancafpecfcjaaDoorBs6
import Derived.Deep.MidRow
import Derived.Maps.AppendAt
import Derived.Test.YtnancafpecfcjaaDoorBs4
import Derived.Deep.QuietTactic
import Derived.BigQuiet
import Derived.Test.YtnancafpecfcjaaDoorBs7
import Derived.LoopTactic
import Derived.Outline
import Derived.Deep.DeepCutAuto
/-
  The laws' small example returns true, from what att's functions tell.
-/
namespace Go.Proofs.YtnancafpecfcjaaDoor
set_option maxRecDepth 20000
open Go.RowKit

theorem setAtt_alloc (w : World) (T : TypeId) (C0 C : Array Value) : setAtt (w.alloc (.cells C0 T)) w.heap.size C = w.alloc (.cells C T) := by
  have hm : ∀ (a : Array Obj) (x : Obj) (f : Obj → Obj), (a.push x).modify a.size f = a.push (f x) := by
    intro a x f
    apply Array.ext_getElem?
    intro k
    rw [Array.getElem?_modify]
    by_cases h : a.size = k
    · subst h
      simp
    · rw [if_neg h, Array.getElem?_push, Array.getElem?_push]
      rw [if_neg (fun e => h e.symm), if_neg (fun e => h e.symm)]
  unfold setAtt World.setRow World.alloc
  simp only [hm]
/-- A variable for an attestation, and what is told stored into it. -/
theorem att_var (w : World) {Z S : Array Value} (hZ : Z.size = 101) (hS : S.size = 101) (h1 : S.all (·.oneCell') = true) :
    storeAtt (.pointer (some ⟨w.heap.size, 0, none⟩)) (.agg S) (w.alloc (.cells Z 27)) = .ok .skip (w.alloc (.cells S 27)) := by
  rw [storeAtt_eq (heap_alloc_new w _) hZ hS h1, setAtt_alloc]
theorem atc_bo (a : AtM) (n : Int) : (atc a).setIfInBounds 0 (.int .i64 n) = atc { a with bo := n } := by
  unfold atc atl
  rw [List.setIfInBounds_toArray]
  rfl
/-- The small example's attestation, built. -/
noncomputable def buildEx (w : World) : Result Next := Sem.run Tryd.prog (execOp (fun _ => .int .i64 1) { dst := none, op := .build 27 #[(0, .const (.int .i64 2)), (1, .const (.int .i64 1)), (2, .const (.int .i64 3)), (3, .const (.int .i64 1)), (5, .const (.int .i64 2))], type := 0, pos := "", after := #[], guard := none }) w
theorem buildEx_run (w : World) : (Instr.build 27 #[(0, .int .i64 2), (1, .int .i64 1), (2, .int .i64 3), (3, .int .i64 1), (5, .int .i64 2)]).run Tryd.prog w = .ok (.agg (atc exA)) w := by
  go_simp
  rfl
theorem exec_build_ex (a : Act) (dst : Option Tmp) (ty : TypeId) (pos : String) (after : Array Edge) (guard : Option (Nat × Bool)) (w : World) :
    Sem.run Tryd.prog (execOp a.eval { dst := dst, op := .build 27 #[(0, .const (.int .i64 2)), (1, .const (.int .i64 1)), (2, .const (.int .i64 3)), (3, .const (.int .i64 1)), (5, .const (.int .i64 2))], type := ty, pos := pos, after := after, guard := guard }) w = .ok (.value (.agg (atc exA))) w := by
  unfold execOp
  simp [Act.eval, buildEx_run]
attribute [local go_sem ↓] exec_load_att exec_alloc_att exec_store_att exec_build_ex

end Go.Proofs.YtnancafpecfcjaaDoor

/-
  A slice of bytes that came in reads as bytes.
-/
namespace Go.Proofs.YtnancafpecfcjaaDoor
set_option maxRecDepth 20000
open Go.ChangeShapes Go.WideShapes Go.ChangeAt Go.RowKit

theorem ownKnob_none : ownKnob Tryd.prog.godebug = none := by kernel_rfl
theorem laidOut : laidOutB Tryd.prog = true := by kernel_rfl

/-- What is known of a slice of integers that came in. -/
def IsRow (k : IntKind) (w : World) (a : Option Addr) (len cap : Nat) (zs : List Int) : Prop :=
  (a = none ∧ len = 0 ∧ cap = 0 ∧ zs = []) ∨
  ∃ x, a = some x ∧ len ≤ cap ∧ cap ≤ maxLen ∧ zs.length = cap ∧ (∀ i, i < zs.length → w.cell? (x.add i) = some (.int k (zs.getD i 0))) ∧ ∀ n ∈ zs, (Lit.int k n).wf = true

theorem row_byt {w : World} {a : Option Addr} {len cap : Nat} {zs : List Int} (h : IsRow .u8 w a len cap zs) : ∃ l : List UInt8, l.length = len ∧ Byt w (.slice a len cap) l := by
  rcases h with ⟨rfl, rfl, rfl, rfl⟩ | ⟨x, rfl, hl, hm, hz, hcell, hwz⟩
  · exact ⟨[], rfl, Byt.nil w⟩
  · have hlen : ((zs.take len).map fun n => UInt8.ofNat n.toNat).length = len := by simp; omega
    refine ⟨(zs.take len).map fun n => UInt8.ofNat n.toNat, hlen, some x, cap, by rw [hlen], by omega, hm, fun h0 => ?_⟩
    rw [hlen] at h0
    obtain ⟨b, off, spot⟩ := x
    have hc := hcell 0 (by omega)
    have hspot : spot = none := by simpa [Addr.add] using World.cell?_spot hc
    subst hspot
    refine ⟨b, off, rfl, ?_, fun j hj => ?_⟩
    · have := World.block_lt_of_cell? w _ hc
      rw [addr_add] at this
      exact this
    · rw [hlen] at hj
      have hjz : j < zs.length := by omega
      have := hcell j hjz
      rw [addr_add] at this
      rw [this]
      have hw := hwz zs[j] (List.getElem_mem hjz)
      have hr : 0 ≤ zs[j] ∧ zs[j] ≤ 255 := by simpa [Lit.wf, IntKind.min, IntKind.max, IntKind.signed, IntKind.bits] using hw
      have e : zs.getD j 0 = zs[j] := by simp [hjz]
      rw [e]
      unfold bcell
      congr 2
      simp only [List.getElem_map, List.getElem_take]
      rw [UInt8.toNat_ofNat']
      omega
end Go.Proofs.YtnancafpecfcjaaDoor

/-
  How arguments of the law's own struct type read: a number, a text, a hash; one by value, or a slice of them.
-/
namespace Go.Proofs.YtnancafpecfcjaaDoor
set_option maxRecDepth 20000
open Go.ChangeShapes Go.WideShapes Go.ChangeAt Go.RowKit Go.Deep

section
variable {H : Type} {enc : TypeId × Value → H} {w : World} {base : Nat} {spare : Nat → Bool} {held : Bool} {fuel : Nat} {cs : List Value} {x : DataW H × List MemPlace}

theorem trod_bytes (h : DataW.trod enc Tryd.prog w base spare held fuel 40 cs = some x) : ∃ v l, cs = [v] ∧ Byt w v l := by
  rcases open_ints Tryd.underlying40 Tryd.underlying5 (by kernel_rfl) h with ⟨rfl, _⟩ | ⟨a, len, cap, zs, rfl, _, hl, hm, hz, _, hcell, hwz⟩
  · exact ⟨_, [], rfl, Byt.nil w⟩
  · have hlz : len ≤ zs.length := by rw [hz]; split <;> omega
    have hlen : ((zs.take len).map fun n => UInt8.ofNat n.toNat).length = len := by simp; omega
    refine ⟨_, (zs.take len).map fun n => UInt8.ofNat n.toNat, rfl, some a, cap, by rw [hlen], by omega, hm, fun h0 => ?_⟩
    rw [hlen] at h0
    obtain ⟨b, off, spot⟩ := a
    have hc := hcell 0 (by omega)
    have hspot : spot = none := by simpa [Addr.add] using World.cell?_spot hc
    subst hspot
    refine ⟨b, off, rfl, ?_, fun j hj => ?_⟩
    · have := World.block_lt_of_cell? w _ hc
      rw [addr_add] at this
      exact this
    · rw [hlen] at hj
      have hjz : j < zs.length := by omega
      have := hcell j hjz
      rw [addr_add] at this
      rw [this]
      have hw := hwz zs[j] (List.getElem_mem hjz)
      have hr : 0 ≤ zs[j] ∧ zs[j] ≤ 255 := by simpa [Lit.wf, IntKind.min, IntKind.max, IntKind.signed, IntKind.bits] using hw
      have e : zs.getD j 0 = zs[j] := by simp [hjz]
      rw [e]
      unfold bcell
      congr 2
      simp only [List.getElem_map, List.getElem_take]
      rw [UInt8.toNat_ofNat']
      omega

theorem trod_byte (h : DataW.trod enc Tryd.prog w base spare held fuel 5 cs = some x) : ∃ c : UInt8, cs = [bcell c] := by
  obtain ⟨n, rfl, _, hw⟩ := DataW.trod_int Tryd.underlying5 h
  have hr : 0 ≤ n ∧ n ≤ 255 := by simpa [Lit.wf, IntKind.min, IntKind.max, IntKind.signed, IntKind.bits] using hw
  refine ⟨UInt8.ofNat n.toNat, ?_⟩
  unfold bcell
  rw [UInt8.toNat_ofNat']
  congr 2
  omega

theorem trod_hash (h : DataW.trod enc Tryd.prog w base spare held fuel 25 cs = some x) : ∃ l : List UInt8, l.length = 32 ∧ cs = bcells l := by
  have hc : Tryd.prog.cellsOf 5 = 1 := by kernel_rfl
  have hc2 : Tryd.prog.cellsOf 25 = 32 := by kernel_rfl
  obtain ⟨xs, m, _, _, hlen, hxl, hi⟩ := DataW.trod_array under_hash h
  rw [hc2] at hlen
  rw [hc] at hi
  have hb : ∀ i, i < 32 → ∃ c : UInt8, cs[i]? = some (bcell c) := by
    intro i hi32
    have h1 := hi i hi32
    rw [List.getElem?_eq_getElem (by omega)] at h1
    obtain ⟨c, hcs⟩ := trod_byte h1
    refine ⟨c, ?_⟩
    have h2 := congrArg (fun l => l[0]?) hcs
    simpa [List.getElem?_take, List.getElem?_drop] using h2
  refine ⟨cs.map fun v => match v with | .int _ n => UInt8.ofNat n.toNat | _ => 0, by simpa using hlen, ?_⟩
  apply List.ext_getElem?
  intro i
  by_cases h32 : i < 32
  · obtain ⟨c, hci⟩ := hb i h32
    have hlt : i < cs.length := by omega
    rw [hci]
    rw [List.getElem?_eq_getElem hlt] at hci
    injection hci with hci
    simp only [bcells, List.map_map, List.getElem?_map, List.getElem?_eq_getElem hlt, Option.map_some, hci, Function.comp]
    simp [bcell]
  · rw [List.getElem?_eq_none (by omega), List.getElem?_eq_none (by simp [bcells]; omega)]

/-- What is known of a number, a text and a hash that came in together. -/
structure PutD where
  n : Nat
  v : Value
  t : List UInt8
  h : List UInt8
/-- The cells of one. -/
def PutD.cells (d : PutD) : List Value := .int .u64 (d.n : Int) :: d.v :: bcells d.h
/-- .. that can be read. -/
structure PutD.Ok (d : PutD) (w : World) : Prop where
  n : d.n < 18446744073709551616
  v : Byt w d.v d.t
  h : d.h.length = 32

/-- A slice of such things that came in. -/
def Puts (w : World) (v : Value) (ps : List PutD) : Prop :=
  ∃ A c, v = .slice A ps.length c ∧ ps.length ≤ c ∧ c ≤ maxLen ∧
    (0 < ps.length → ∃ b off, A = some ⟨b, off, none⟩ ∧ b < w.heap.size ∧ ∀ i (h : i < ps.length), ps[i].Ok w ∧ w.rangeAt b (off + i * 34) ps[i].cells)

end

/-- The bytes of one. -/
def PutD.enc (d : PutD) : List UInt8 := dg d.n ++ (tx d.t ++ d.h)
/-- The bytes of several, one behind the other. -/
def encs (ps : List PutD) : List UInt8 := (ps.map PutD.enc).flatten
theorem encs_succ (ps : List PutD) (i : Nat) (h : i < ps.length) : encs (ps.take (i + 1)) = encs (ps.take i) ++ ps[i].enc := by
  unfold encs
  rw [List.take_succ_eq_append_getElem h, List.map_append, List.flatten_append]
  simp
theorem encs_drop (ps : List PutD) (i : Nat) (h : i < ps.length) : (encs ps).drop (encs (ps.take i)).length = ps[i].enc ++ encs (ps.drop (i + 1)) := by
  have e : encs ps = encs (ps.take i) ++ (ps[i].enc ++ encs (ps.drop (i + 1))) := by
    unfold encs
    have h1 : ps = ps.take i ++ (ps[i] :: ps.drop (i + 1)) := by rw [← List.drop_eq_getElem_cons h, List.take_append_drop]
    have h2 : (ps.map PutD.enc).flatten = ((ps.take i ++ (ps[i] :: ps.drop (i + 1))).map PutD.enc).flatten := by rw [← h1]
    rw [h2, List.map_append, List.flatten_append, List.map_cons, List.flatten_cons]
  rw [e, List.drop_left]
theorem enc_len {d : PutD} (hn : d.n < 18446744073709551616) (hh : d.h.length = 32) (ht : d.t.length ≤ 300) : d.enc.length ≤ 400 := by
  have h1 := dg_len10 hn
  have h2 := dg_len10 (n := d.t.length) (by omega)
  unfold PutD.enc
  simp only [List.length_append, tx_len]
  omega
theorem Puts.keep {w w' : World} {v : Value} {ps : List PutD} (h : Puts w v ps) (hb : Below w.heap.size w w') : Puts w' v ps := by
  obtain ⟨A, c, e, h1, h2, h3⟩ := h
  refine ⟨A, c, e, h1, h2, fun h0 => ?_⟩
  obtain ⟨b, off, ea, hlt, hc⟩ := h3 h0
  refine ⟨b, off, ea, Nat.lt_of_lt_of_le hlt hb.size, fun i hi => ?_⟩
  obtain ⟨ok, hr⟩ := hc i hi
  exact ⟨⟨ok.n, ok.v.below hb, ok.h⟩, fun j u hu => (hb.cell (p := ⟨b, off + i * 34 + j, none⟩) hlt).trans (hr j u hu)⟩
theorem PutD.at_ {d : PutD} {w : World} {b o : Nat} (h : w.rangeAt b o d.cells) : w.cell? ⟨b, o, none⟩ = some (.int .u64 (d.n : Int)) ∧ w.cell? ⟨b, o + 1, none⟩ = some d.v ∧ w.rangeAt b (o + 2) (bcells d.h) :=
  ⟨h 0 _ rfl, h 1 _ rfl, fun j u hu => by
    have := h (j + 2) u (by rw [← hu]; rfl)
    rw [← this]
    congr 2
    omega⟩
theorem range_below {w w' : World} {B b o : Nat} {l : List Value} (h : w.rangeAt b o l) (hb : Below B w w') (hlt : b < B) : w'.rangeAt b o l := fun j u hu => (hb.cell (p := ⟨b, o + j, none⟩) hlt).trans (h j u hu)
end Go.Proofs.YtnancafpecfcjaaDoor

/-
  An attestation, as it came in by value.
-/
namespace Go.Proofs.YtnancafpecfcjaaDoor
set_option maxRecDepth 20000
open Go.ChangeShapes Go.WideShapes Go.ChangeAt Go.RowKit Go.Deep

theorem drop_part {α : Type} {cs l : List α} {o k : Nat} (h : (cs.drop o).take k = l) : cs.drop o = l ++ cs.drop (o + k) := by
  conv => lhs; rw [← List.take_append_drop k (cs.drop o), List.drop_drop, h]
section
variable {H : Type} {enc : TypeId × Value → H} {w : World} {base : Nat} {spare : Nat → Bool} {held : Bool} {fuel : Nat} {cs : List Value} {x : DataW H × List MemPlace}
theorem fields_at : ∃ f0 f1 f2 f3 f4 f5 f6 f7 : Field, Tryd.prog.underlying 27 = some (.struct #[f0, f1, f2, f3, f4, f5, f6, f7]) ∧ (f0.type, f0.offset) = (3, 0) ∧ (f1.type, f1.offset) = (3, 1) ∧ (f2.type, f2.offset) = (3, 2)
    ∧ (f3.type, f3.offset) = (3, 3) ∧ (f4.type, f4.offset) = (25, 4) ∧ (f5.type, f5.offset) = (3, 36) ∧ (f6.type, f6.offset) = (25, 37) ∧ (f7.type, f7.offset) = (25, 69) :=
  ⟨_, _, _, _, _, _, _, _, Tryd.underlying27, rfl, rfl, rfl, rfl, rfl, rfl, rfl, rfl⟩

theorem trod_at (h : DataW.trod enc Tryd.prog w base spare held fuel 27 cs = some x) : ∃ a : AtM, a.Ok ∧ cs = atl a := by
  obtain ⟨f0, f1, f2, f3, f4, f5, f6, f7, hu, e0, e1, e2, e3, e4, e5, e6, e7⟩ := fields_at
  injection e0 with t0 o0
  injection e1 with t1 o1
  injection e2 with t2 o2
  injection e3 with t3 o3
  injection e4 with t4 o4
  injection e5 with t5 o5
  injection e6 with t6 o6
  injection e7 with t7 o7
  obtain ⟨xs, m, _, _, hlen, hxl, hf⟩ := DataW.trod_struct hu h
  have hc : Tryd.prog.cellsOf 27 = 101 := by kernel_rfl
  have hci : Tryd.prog.cellsOf 3 = 1 := by kernel_rfl
  have hch : Tryd.prog.cellsOf 25 = 32 := by kernel_rfl
  rw [hc] at hlen
  have hx : xs.length = 8 := hxl
  have g0 := hf 0 f0 rfl
  have g1 := hf 1 f1 rfl
  have g2 := hf 2 f2 rfl
  have g3 := hf 3 f3 rfl
  have g4 := hf 4 f4 rfl
  have g5 := hf 5 f5 rfl
  have g6 := hf 6 f6 rfl
  have g7 := hf 7 f7 rfl
  rw [t0, o0, hci, List.getElem?_eq_getElem (by omega)] at g0
  rw [t1, o1, hci, List.getElem?_eq_getElem (by omega)] at g1
  rw [t2, o2, hci, List.getElem?_eq_getElem (by omega)] at g2
  rw [t3, o3, hci, List.getElem?_eq_getElem (by omega)] at g3
  rw [t4, o4, hch, List.getElem?_eq_getElem (by omega)] at g4
  rw [t5, o5, hci, List.getElem?_eq_getElem (by omega)] at g5
  rw [t6, o6, hch, List.getElem?_eq_getElem (by omega)] at g6
  rw [t7, o7, hch, List.getElem?_eq_getElem (by omega)] at g7
  obtain ⟨n0, c0, _, _⟩ := DataW.trod_int Tryd.underlying3 g0
  obtain ⟨n1, c1, _, _⟩ := DataW.trod_int Tryd.underlying3 g1
  obtain ⟨n2, c2, _, _⟩ := DataW.trod_int Tryd.underlying3 g2
  obtain ⟨n3, c3, _, _⟩ := DataW.trod_int Tryd.underlying3 g3
  obtain ⟨ha, h4, c4⟩ := trod_hash g4
  obtain ⟨n5, c5, _, _⟩ := DataW.trod_int Tryd.underlying3 g5
  obtain ⟨pa, h6, c6⟩ := trod_hash g6
  obtain ⟨tg, h7, c7⟩ := trod_hash g7
  refine ⟨⟨n0, n1, n2, n3, ha, n5, pa, tg⟩, ⟨h4, h6, h7⟩, ?_⟩
  have e : cs = cs.drop 0 := rfl
  rw [e, drop_part c0, drop_part c1, drop_part c2, drop_part c3, drop_part c4, drop_part c5, drop_part c6, drop_part c7, List.drop_eq_nil_of_le (by omega)]
  unfold atl
  simp only [List.append_nil, List.cons_append, List.nil_append]
theorem trod_att (h : DataW.trod enc Tryd.prog w base spare held fuel 27 cs = some x) : ∃ a : AtM, a.Ok ∧ cs = (atc a).toList := by
  obtain ⟨a, ho, e⟩ := trod_at h
  exact ⟨a, ho, e⟩
end
end Go.Proofs.YtnancafpecfcjaaDoor

/-
  Three attestations, as they came in by value.
-/
namespace Go.Proofs.YtnancafpecfcjaaDoor
set_option maxRecDepth 20000
open Go.ChangeShapes Go.WideShapes Go.ChangeAt Go.RowKit Go.Deep

/-- Three attestations' cells. -/
def at3c (a b c : AtM) : Array Value := (atl a ++ (atl b ++ atl c)).toArray
section
variable {H : Type} {enc : TypeId × Value → H} {w : World} {base : Nat} {spare : Nat → Bool} {held : Bool} {fuel : Nat} {cs : List Value} {x : DataW H × List MemPlace}
end
end Go.Proofs.YtnancafpecfcjaaDoor

/-
  AttAlikes: whatever attestations are alike are so either way, and through a third one; who attests, and the tag, count not: the law's walk, from what att's functions tell. Printed with genalikes.py.
-/
namespace Go.Proofs.YtnancafpecfcjaaDoor
set_option maxRecDepth 20000
open Go.RowKit
attribute [local go_sem ↓] exec_load_att exec_alloc_att exec_store_att exec_load_hash

/-- Three operations may come next. -/
theorem triple_on {P : Program} {md : Region.Mode} {l : List Oper} {Q : Exit → Act → World → Prop} {S : World → Prop} {i j k : Nat} {oi oj ok : Oper} {fuel : Nat} {listed : Array Bool} {a : Act} {w : World} (hi : l[i]? = some oi) (hj : l[j]? = some oj) (hk : l[k]? = some ok)
    (hr : Region.ready md l.toArray listed = [i, j, k]) (hwi : Region.wanted oi (yielded l.toArray a.tmps) = true) (hwj : Region.wanted oj (yielded l.toArray a.tmps) = true) (hwk : Region.wanted ok (yielded l.toArray a.tmps) = true)
    (h1 : ∀ K' : Act → World → Prop, Shut (∀ a w, S w → (S w → wpAnyH P md l.toArray Q S fuel (listed.setIfInBounds i true) a w) → K' a w) → Oper.wp P oi a w K' Q)
    (h2 : ∀ K' : Act → World → Prop, Shut (∀ a w, S w → (S w → wpAnyH P md l.toArray Q S fuel (listed.setIfInBounds j true) a w) → K' a w) → Oper.wp P oj a w K' Q)
    (h3 : ∀ K' : Act → World → Prop, Shut (∀ a w, S w → (S w → wpAnyH P md l.toArray Q S fuel (listed.setIfInBounds k true) a w) → K' a w) → Oper.wp P ok a w K' Q) : wpAnyH P md l.toArray Q S (fuel + 1) listed a w :=
  wpAnyH_ready hr (by simp) (AllReadyH.cons (by simpa using hi) (fun K hK => by rw [if_pos hwi]; exact h1 K hK) (AllReadyH.cons (by simpa using hj) (fun K hK => by rw [if_pos hwj]; exact h2 K hK) (AllReadyH.cons (by simpa using hk) (fun K hK => by rw [if_pos hwk]; exact h3 K hK) AllReadyH.nil)))
theorem wp_alloc_att {op : Oper} {ac : Act} {w : World} {K : Act → World → Prop} {Q : Exit → Act → World → Prop} (ho : op.op = .alloc 27) {n : Nat} (hn : w.heap.size = n) {Z : Array Value} (hZ : atc atZ = Z)
    (h : K (ac.put op.dst (.pointer (some ⟨n, 0, none⟩))) (w.alloc (.cells Z 27))) : op.wp Tryd.prog ac w K Q := by
  subst hn hZ
  unfold Oper.wp execOp
  simp only [ho, Sem.run_bind, Instr.alloc, run_zero_att, newVar, newRow, run_newObj_alloc, Sem.run_pure, Result.andThen_ok, Value.cells]
  exact h
theorem loadAtt_mid {w : World} {g o : Nat} {a : AtM} (hr : w.rangeAt g o (atl a)) (ho : a.Ok) : loadAtt (.pointer (some ⟨g, o, none⟩)) w = .ok (.value (.agg (atc a))) w := by
  have := run_loadAt_mid (P := Tryd.prog) w g o 27 (atl a) _ hr under_att rfl (by rw [size_att, atl_length ho])
  unfold loadAtt execOp
  simp only [Sem.run_bind, this, Result.andThen_ok, Sem.run_pure]
  rfl
theorem at3_ranges {w : World} {g : Nat} {a b c : AtM} {T : TypeId} (h : w.heap[g]? = some (.cells (at3c a b c) T (0, 0))) (ha : a.Ok) (hb : b.Ok) : w.rangeAt g 0 (atl a) ∧ w.rangeAt g 101 (atl b) ∧ w.rangeAt g 202 (atl c) := by
  have la := atl_length ha
  have lb := atl_length hb
  refine ⟨fun j u hu => ?_, fun j u hu => ?_, fun j u hu => ?_⟩
  all_goals
    have hj := (List.getElem?_eq_some_iff.1 hu).1
    rw [cell_blk h]
    unfold at3c
    rw [List.getElem?_toArray]
  · rw [Nat.zero_add, List.getElem?_append_left hj]
    exact hu
  · rw [List.getElem?_append_right (by omega), la, List.getElem?_append_left (by omega), show 101 + j - 101 = j from by omega]
    exact hu
  · rw [List.getElem?_append_right (by omega), la, List.getElem?_append_right (by omega), lb, show 202 + j - 101 - 101 = j from by omega]
    exact hu
/-- Three attestations' variables. -/
def TriAt (w0 : World) (CA CB CC : Array Value) (s7 s8 s9 : Value) (wx : World) : Prop := ∃ p7 p8 p9, s7 = .pointer (some ⟨p7, 0, none⟩) ∧ s8 = .pointer (some ⟨p8, 0, none⟩) ∧ s9 = .pointer (some ⟨p9, 0, none⟩) ∧
  wx.heap[p7]? = some (.cells CA 27 (0, 0)) ∧ wx.heap[p8]? = some (.cells CB 27 (0, 0)) ∧ wx.heap[p9]? = some (.cells CC 27 (0, 0)) ∧ Below w0.heap.size w0 wx

end Go.Proofs.YtnancafpecfcjaaDoor

/-
  Certificates as plain data: which are right, which have bytes, what is made of attestations, which one bytes begin with. No function of the program.
-/
namespace Go.Proofs.YtnancafpecfcjaaDoor
set_option maxRecDepth 20000

/-- A signature. -/
structure SgM where
  bo : Int
  tg : List UInt8
  deriving DecidableEq
def SgM.Ok (s : SgM) : Prop := s.tg.length = 32
/-- A certificate. -/
structure CtM where
  att : AtM
  sg : List SgM
  deriving DecidableEq
structure CtM.Ok (c : CtM) : Prop where
  att : c.att.Ok
  sg : ∀ s ∈ c.sg, s.Ok
def ctZ : CtM := ⟨atZ, []⟩
theorem ctZ_ok : ctZ.Ok := ⟨atZ_ok, fun s hs => absurd hs (by simp [ctZ])⟩

/-- An attestation with a signature. -/
def withC (a : AtM) (s : SgM) : AtM := { a with bo := s.bo, tg := s.tg }
theorem withC_ok {a : AtM} {s : SgM} (ha : a.Ok) (hs : s.Ok) : (withC a s).Ok := ⟨ha.ha, ha.pa, hs⟩
/-- Do the signers rise behind one, up to another? -/
def risesB (top : Int) : Int → List SgM → Bool
  | _, [] => true
  | last, s :: r => (decide (last < s.bo) && decide (s.bo ≤ top)) && risesB top s.bo r
theorem risesB_mem {top : Int} : ∀ {l : List SgM} {last : Int}, risesB top last l = true → ∀ s ∈ l, last < s.bo ∧ s.bo ≤ top
  | [], _, _, s, hs => by cases hs
  | x :: r, last, h, s, hs => by
    unfold risesB at h
    simp only [Bool.and_eq_true, decide_eq_true_eq] at h
    obtain ⟨⟨h1, h2⟩, h3⟩ := h
    rcases List.mem_cons.1 hs with rfl | hs
    · exact ⟨h1, h2⟩
    · have := risesB_mem h3 s hs
      omega
theorem risesB_nodup {top : Int} : ∀ {l : List SgM} {last : Int}, risesB top last l = true → (l.map (·.bo)).Nodup
  | [], _, _ => List.nodup_nil
  | x :: r, last, h => by
    unfold risesB at h
    simp only [Bool.and_eq_true, decide_eq_true_eq] at h
    rw [List.map_cons, List.nodup_cons]
    refine ⟨fun hm => ?_, risesB_nodup h.2⟩
    obtain ⟨s, hs, e⟩ := List.mem_map.1 hm
    have := (risesB_mem h.2 s hs).1
    omega
theorem risesB_len {l : List SgM} {top : Nat} (h : risesB (top : Int) 0 l = true) : l.length ≤ top := by
  have := unlike_le top (l.map (·.bo)) (risesB_nodup h) (fun x hx => by
    obtain ⟨y, hy, rfl⟩ := List.mem_map.1 hx
    have := risesB_mem h y hy
    omega)
  rwa [List.length_map] at this
/-- One more signer, greater than all. -/
theorem risesB_more {top k : Int} {s : SgM} : ∀ {l : List SgM} {last : Int}, risesB k last l = true → last ≤ k → k < s.bo → s.bo ≤ top → k ≤ top → risesB top last (l ++ [s]) = true
  | [], last, _, h0, h1, h2, _ => by
    show ((decide (last < s.bo) && decide (s.bo ≤ top)) && true) = true
    simp only [Bool.and_true, Bool.and_eq_true, decide_eq_true_eq]
    omega
  | x :: r, last, h, h0, h1, h2, h3 => by
    unfold risesB at h
    simp only [Bool.and_eq_true, decide_eq_true_eq] at h
    rw [List.cons_append]
    unfold risesB
    simp only [Bool.and_eq_true, decide_eq_true_eq]
    exact ⟨⟨h.1.1, by omega⟩, risesB_more h.2 h.1.2 h1 h2 h3⟩
theorem risesB_top {top k : Int} : ∀ {l : List SgM} {last : Int}, risesB k last l = true → k ≤ top → risesB top last l = true
  | [], _, _, _ => rfl
  | x :: r, last, h, h1 => by
    unfold risesB at h ⊢
    simp only [Bool.and_eq_true, decide_eq_true_eq] at h ⊢
    exact ⟨⟨h.1.1, by omega⟩, risesB_top h.2 h1⟩

/-- Has its attestation nobody, and no tag? -/
def bareC (c : CtM) : Bool := decide (c.att.bo = 0) && decide (c.att.tg = z32)
theorem bareC_iff {c : CtM} : bareC c = true ↔ c.att.bo = 0 ∧ c.att.tg = z32 := by
  unfold bareC
  simp only [Bool.and_eq_true, decide_eq_true_eq]
/-- Is it right? -/
def rightC (n : Int) (c : CtM) : Bool := decide (quoS n ≠ 0) && (decide (c.sg.length = quoS n) && (risesB n 0 c.sg && (bareC c && c.sg.all fun s => rightA (withC c.att s))))
/-- Has it bytes? -/
def mayC (c : CtM) : Bool := bareC c && (mayA (withC c.att ⟨1, z32⟩) && (decide (0 < c.sg.length) && risesB 21 0 c.sg))
def bytesG (s : SgM) : List UInt8 := dg s.bo.toNat ++ s.tg
/-- Its bytes. -/
def bytesC (c : CtM) : List UInt8 := taggedA c.att ++ (dg c.sg.length ++ (c.sg.map bytesG).flatten)

/-- The signatures of the first ones, by their By up to k. -/
def sigsC (l : List AtM) (q : Nat) : Nat → List SgM
  | 0 => []
  | k + 1 => if (sigsC l q k).length < q then match l.find? (fun a => decide (a.bo = ((k + 1 : Nat) : Int))) with
    | some a => sigsC l q k ++ [⟨((k + 1 : Nat) : Int), a.tg⟩]
    | none => sigsC l q k
    else sigsC l q k
/-- What is made: 1 is told where there is no quorum or nothing, or two are not alike, 7 where one is not right, 3 where there are too few. -/
def makeC (n : Int) (l : List AtM) : CtM × Int := match l with
  | [] => (ctZ, 1)
  | a0 :: r => if quoS n = 0 then (ctZ, 1) else if ((a0 :: r).all fun a => rightA a && decide (a.bo ≤ n)) = false then (ctZ, 7) else if ((a0 :: r).all fun a => alikeA a a0) = false then (ctZ, 1)
    else if (sigsC (a0 :: r) (quoS n) n.toNat).length < quoS n then (ctZ, 3) else (⟨withC a0 ⟨0, z32⟩, sigsC (a0 :: r) (quoS n) n.toNat⟩, 0)

theorem sigsC_len (l : List AtM) (q : Nat) : ∀ k, (sigsC l q k).length ≤ q
  | 0 => Nat.zero_le _
  | k + 1 => by
    have ih := sigsC_len l q k
    unfold sigsC
    split
    · split
      · simp only [List.length_append, List.length_cons, List.length_nil]
        omega
      · exact ih
    · exact ih
theorem sigsC_rises (l : List AtM) (q : Nat) : ∀ k : Nat, risesB (k : Int) 0 (sigsC l q k) = true
  | 0 => rfl
  | k + 1 => by
    have ih := sigsC_rises l q k
    unfold sigsC
    split
    · split
      · exact risesB_more ih (by omega) (by simp only; omega) (by simp only; omega) (by omega)
      · exact risesB_top ih (by omega)
    · exact risesB_top ih (by omega)
theorem sigsC_mem (l : List AtM) (q : Nat) : ∀ k, ∀ s ∈ sigsC l q k, ∃ a ∈ l, a.bo = s.bo ∧ a.tg = s.tg
  | 0, s, hs => by cases hs
  | k + 1, s, hs => by
    have ih := sigsC_mem l q k s
    unfold sigsC at hs
    split at hs
    · split at hs
      · rename_i a ha
        rcases List.mem_append.1 hs with hs | hs
        · exact ih hs
        · obtain rfl := List.mem_singleton.1 hs
          refine ⟨a, List.mem_of_find?_eq_some ha, ?_, rfl⟩
          have := List.find?_some ha
          exact of_decide_eq_true this
      · exact ih hs
    · exact ih hs
theorem alike_with {a b : AtM} (h : alikeA a b = true) : withC b ⟨a.bo, a.tg⟩ = a := by
  obtain ⟨h1, h2, h3, h4, h5, h6⟩ := alikeA_iff.1 h
  obtain ⟨bo, ki, vi, ph, ha, pv, pa, tg⟩ := a
  unfold withC
  simp only at h1 h2 h3 h4 h5 h6
  rw [← h1, ← h2, ← h3, ← h4, ← h5, ← h6]
theorem quoS_top {n : Int} (h : quoS n ≠ 0) : 1 ≤ n ∧ n ≤ 21 ∧ 0 < quoS n ∧ n < 2 * (quoS n : Int) := by
  unfold quoS at h ⊢
  split at h
  · rename_i hc
    rw [if_pos hc]
    omega
  · exact absurd rfl h
/-- What an error is told of is nothing; what is made has as many signers as the quorum. -/
theorem makeC_cases (n : Int) (l : List AtM) : ((makeC n l).1 = ctZ ∧ (makeC n l).2 ≠ 0) ∨
    ((makeC n l).2 = 0 ∧ ∃ a0 r, l = a0 :: r ∧ quoS n ≠ 0 ∧ (∀ a ∈ l, rightA a = true ∧ a.bo ≤ n) ∧ (∀ a ∈ l, alikeA a a0 = true) ∧ (sigsC l (quoS n) n.toNat).length = quoS n ∧ (makeC n l).1 = ⟨withC a0 ⟨0, z32⟩, sigsC l (quoS n) n.toNat⟩) := by
  cases l with
  | nil => exact .inl ⟨rfl, by show (1 : Int) ≠ 0; decide⟩
  | cons a0 r =>
    unfold makeC
    simp only
    split
    · exact .inl ⟨rfl, by decide⟩
    · rename_i h1
      split
      · exact .inl ⟨rfl, by decide⟩
      · rename_i h2
        split
        · exact .inl ⟨rfl, by decide⟩
        · rename_i h3
          split
          · exact .inl ⟨rfl, by decide⟩
          · rename_i h4
            right
            have h2' : ((a0 :: r).all fun a => rightA a && decide (a.bo ≤ n)) = true := by simpa only [Bool.not_eq_false] using h2
            have h3' : ((a0 :: r).all fun a => alikeA a a0) = true := by simpa only [Bool.not_eq_false] using h3
            refine ⟨rfl, a0, r, rfl, h1, fun a ha => ?_, fun a ha => List.all_eq_true.1 h3' a ha, ?_, rfl⟩
            · have := List.all_eq_true.1 h2' a ha
              rw [Bool.and_eq_true, decide_eq_true_eq] at this
              exact this
            · have := sigsC_len (a0 :: r) (quoS n) n.toNat
              omega
theorem made_right {n : Int} {l : List AtM} (h : (makeC n l).2 = 0) : rightC n (makeC n l).1 = true := by
  rcases makeC_cases n l with ⟨_, h2⟩ | ⟨_, a0, r, rfl, h1, h2, h3, h4, h5⟩
  · exact absurd h h2
  · rw [h5]
    have hn := quoS_top h1
    have hr := sigsC_rises (a0 :: r) (quoS n) n.toNat
    rw [show ((n.toNat : Nat) : Int) = n from by omega] at hr
    unfold rightC
    simp only [Bool.and_eq_true, decide_eq_true_eq, List.all_eq_true]
    refine ⟨h1, h4, hr, bareC_iff.2 ⟨rfl, rfl⟩, fun s hs => ?_⟩
    obtain ⟨a, ha, e1, e2⟩ := sigsC_mem _ _ _ s hs
    have e : withC (withC a0 ⟨0, z32⟩) s = a := by
      have := alike_with (h3 a ha)
      rw [← this]
      unfold withC
      rw [e1, e2]
    rw [e]
    exact (h2 a ha).1
theorem makeC_ok {n : Int} {l : List AtM} (hl : ∀ a ∈ l, a.Ok) : (makeC n l).1.Ok := by
  rcases makeC_cases n l with ⟨h, _⟩ | ⟨_, a0, r, rfl, _, _, _, _, h5⟩
  · rw [h]
    exact ctZ_ok
  · rw [h5]
    refine ⟨withC_ok (hl a0 (by simp)) (by show z32.length = 32; simp [z32]), fun s hs => ?_⟩
    obtain ⟨a, ha, _, e2⟩ := sigsC_mem _ _ _ s hs
    show s.tg.length = 32
    rw [← e2]
    exact (hl a ha).tg
/-- Two that are made for the same number of parts have a signer in common. -/
theorem made_meet {n : Int} {l m : List AtM} (hl : (makeC n l).2 = 0) (hm : (makeC n m).2 = 0) : ∃ x, x ∈ (makeC n l).1.sg.map (·.bo) ∧ x ∈ (makeC n m).1.sg.map (·.bo) := by
  have K : ∀ {l : List AtM}, (makeC n l).2 = 0 → quoS n ≠ 0 ∧ (makeC n l).1.sg.length = quoS n ∧ risesB n 0 (makeC n l).1.sg = true := by
    intro l h
    have := made_right h
    unfold rightC at this
    simp only [Bool.and_eq_true, decide_eq_true_eq] at this
    exact ⟨this.1, this.2.1, this.2.2.1⟩
  obtain ⟨h0, h1, h2⟩ := K hl
  obtain ⟨_, k1, k2⟩ := K hm
  have hn := quoS_top h0
  obtain ⟨N, hN⟩ : ∃ N : Nat, n = (N : Int) := ⟨n.toNat, by omega⟩
  have R : ∀ {s : List SgM}, risesB n 0 s = true → ∀ x ∈ s.map (·.bo), 1 ≤ x ∧ x ≤ (N : Int) := by
    intro s h x hx
    obtain ⟨y, hy, rfl⟩ := List.mem_map.1 hx
    have := risesB_mem h y hy
    omega
  exact lists_meet (n := N) (risesB_nodup h2) (risesB_nodup k2) (R h2) (R k2) (by rw [List.length_map, List.length_map, h1, k1]; omega)

/-- So many signatures read from a place on. -/
def rdSigs (l : List UInt8) (p : Nat) (r : Bool) : Nat → List SgM × Nat × Bool
  | 0 => ([], p, r)
  | k + 1 => ((rdSigs l p r k).1 ++ [⟨((rdUpto 21 l (rdSigs l p r k).2.1 (rdSigs l p r k).2.2).1 : Int), (rdHash l (rdUpto 21 l (rdSigs l p r k).2.1 (rdSigs l p r k).2.2).2.1 (rdUpto 21 l (rdSigs l p r k).2.1 (rdSigs l p r k).2.2).2.2).1⟩],
      (rdHash l (rdUpto 21 l (rdSigs l p r k).2.1 (rdSigs l p r k).2.2).2.1 (rdUpto 21 l (rdSigs l p r k).2.1 (rdSigs l p r k).2.2).2.2).2)
/-- What is read from a place on, whether it may be or not. -/
def rawC (l : List UInt8) (p : Nat) (r : Bool) : CtM × Nat × Bool :=
  let b := rdUpto 3 l p r
  let c := rdUpto 1099511627776 l b.2.1 b.2.2
  let d := rdUpto 3 l c.2.1 c.2.2
  let e := rdHash l d.2.1 d.2.2
  let f := rdUpto 1099511627776 l e.2.1 e.2.2
  let g := rdHash l f.2.1 f.2.2
  let h := rdUpto 21 l g.2.1 g.2.2
  let s := rdSigs l h.2.1 h.2.2 h.1
  (⟨⟨0, b.1, c.1, d.1, e.1, f.1, g.1, z32⟩, s.1⟩, s.2)
def ctIs (l : List UInt8) (p : Nat) (r : Bool) : Bool := (rawC l p r).2.2 && mayC (rawC l p r).1
def ctOf (l : List UInt8) (p : Nat) (r : Bool) : CtM := if ctIs l p r = true then (rawC l p r).1 else ctZ
theorem rdSigs_ok (l : List UInt8) (p : Nat) (r : Bool) : ∀ k, ∀ s ∈ (rdSigs l p r k).1, s.Ok
  | 0, s, hs => by cases hs
  | k + 1, s, hs => by
    unfold rdSigs at hs
    rcases List.mem_append.1 hs with hs | hs
    · exact rdSigs_ok l p r k s hs
    · obtain rfl := List.mem_singleton.1 hs
      exact rdHash_32 _ _ _
theorem rdSigs_len (l : List UInt8) (p : Nat) (r : Bool) : ∀ k, (rdSigs l p r k).1.length = k
  | 0 => rfl
  | k + 1 => by
    unfold rdSigs
    rw [List.length_append, rdSigs_len l p r k]
    rfl
theorem rawC_ok (l : List UInt8) (p : Nat) (r : Bool) : (rawC l p r).1.Ok := ⟨⟨rdHash_32 _ _ _, rdHash_32 _ _ _, rfl⟩, rdSigs_ok _ _ _ _⟩
theorem ctOf_ok (l : List UInt8) (p : Nat) (r : Bool) : (ctOf l p r).Ok := by
  unfold ctOf
  split
  · exact rawC_ok l p r
  · exact ctZ_ok
/-- What was put is read. -/
theorem rdSigs_back {L r : List UInt8} : ∀ (ts : List SgM) (p : Nat), (∀ s ∈ ts, s.Ok ∧ 1 ≤ s.bo ∧ s.bo ≤ 21) → L.drop p = (ts.map bytesG).flatten ++ r →
    ∀ k, k ≤ ts.length → rdSigs L p true k = (ts.take k, p + ((ts.take k).map bytesG).flatten.length, true) := by
  intro ts p hm h k
  induction k with
  | zero => intro _; simp [rdSigs]
  | succ k ih =>
    intro hk
    have hlt : k < ts.length := by omega
    have e1 : ts = ts.take k ++ (ts[k] :: ts.drop (k + 1)) := by
      rw [← List.drop_eq_getElem_cons hlt, List.take_append_drop]
    have hd : L.drop (p + ((ts.take k).map bytesG).flatten.length) = bytesG ts[k] ++ (((ts.drop (k + 1)).map bytesG).flatten ++ r) := by
      have h' := h
      rw [e1] at h'
      simp only [List.map_append, List.map_cons, List.flatten_append, List.flatten_cons, List.append_assoc] at h'
      exact drop_more h'
    obtain ⟨o1, o2, o3⟩ := hm _ (List.getElem_mem hlt)
    rw [List.take_succ_eq_append_getElem hlt]
    obtain ⟨⟨bo, tg⟩, hs⟩ : ∃ s, ts[k] = s := ⟨_, rfl⟩
    rw [hs] at hd o1 o2 o3 ⊢
    have o1' : tg.length = 32 := o1
    simp only at o2 o3
    obtain ⟨b, rfl⟩ := nat_of (i := bo) (by omega)
    have eb : bytesG ⟨(b : Int), tg⟩ = dg b ++ tg := by
      unfold bytesG
      rw [Int.toNat_natCast]
    rw [eb, List.append_assoc] at hd
    have d2 := drop_more hd
    unfold rdSigs
    rw [ih (by omega)]
    simp only [rdUpto_at (m := 21) hd (by omega) (by omega), rdHash_at d2 o1']
    simp only [List.map_append, List.map_cons, List.map_nil, List.flatten_append, List.flatten_cons, List.flatten_nil, List.append_nil, List.length_append, eb, o1', Nat.add_assoc]
theorem rawC_back {c : CtM} {L r : List UInt8} {p : Nat} (ho : c.Ok) (hm : mayC c = true) (h : L.drop p = bytesC c ++ r) : rawC L p true = (c, p + (bytesC c).length, true) := by
  unfold mayC at hm
  simp only [Bool.and_eq_true, decide_eq_true_eq] at hm
  obtain ⟨hb, ha, hl, hr⟩ := hm
  obtain ⟨hb1, hb2⟩ := bareC_iff.1 hb
  obtain ⟨_, _, h3, h4, h5, h6, h7, h8, h9⟩ := mayA_iff ha
  have hsg : ∀ s ∈ c.sg, s.Ok ∧ 1 ≤ s.bo ∧ s.bo ≤ 21 := fun s hs => ⟨ho.sg s hs, by have := risesB_mem hr s hs; omega, by have := risesB_mem hr s hs; omega⟩
  have hlen : c.sg.length ≤ 21 := risesB_len (top := 21) hr
  obtain ⟨⟨bo, ki, vi, ph, hh, pv, pa, tg⟩, sg⟩ := c
  obtain ⟨⟨k1, k2, k3⟩, _⟩ := ho
  unfold withC at h3 h4 h5 h6 h7 h8 h9
  simp only at hb1 hb2 h3 h4 h5 h6 h7 h8 h9 k1 k2 k3 hsg hlen
  subst hb1 hb2
  obtain ⟨x2, rfl⟩ := nat_of (i := ki) (by omega)
  obtain ⟨x3, rfl⟩ := nat_of (i := vi) (by omega)
  obtain ⟨x4, rfl⟩ := nat_of (i := ph) (by omega)
  obtain ⟨x5, rfl⟩ := nat_of (i := pv) (by omega)
  unfold bytesC taggedA at h ⊢
  simp only [Int.toNat_natCast, List.append_assoc] at h ⊢
  have d1 := drop_more h
  have d2 := drop_more d1
  have d3 := drop_more d2
  have d4 := drop_more d3
  rw [k1] at d4
  have d5 := drop_more d4
  have d6 := drop_more d5
  rw [k2] at d6
  have d7 := drop_more d6
  unfold rawC
  simp only [rdUpto_at (m := 3) h (by omega) (by omega), rdUpto_at (m := 1099511627776) d1 (by omega) (by omega), rdUpto_at (m := 3) d2 (by omega) (by omega), rdHash_at d3 k1,
    rdUpto_at (m := 1099511627776) d4 (by omega) (by omega), rdHash_at d5 k2, rdUpto_at (m := 21) d6 (by omega) (by omega), rdSigs_back sg _ hsg d7 sg.length (Nat.le_refl _), List.take_length]
  simp [k1, k2, Nat.add_assoc]
theorem ctIs_back {c : CtM} {L r : List UInt8} {p : Nat} (ho : c.Ok) (hm : mayC c = true) (h : L.drop p = bytesC c ++ r) : ctIs L p true = true ∧ ctOf L p true = c ∧ (rawC L p true).2.1 = p + (bytesC c).length := by
  have e := rawC_back ho hm h
  have hi : ctIs L p true = true := by unfold ctIs; rw [e, hm]; rfl
  exact ⟨hi, by unfold ctOf; rw [if_pos hi, e], by rw [e]⟩
end Go.Proofs.YtnancafpecfcjaaDoor

/-
  Lists of elements of several cells each: what a slice reads as; a row of the call's own, an append onto it; as an argument. For any type of elements (Elt: its cells, their number, the types).
-/
namespace Go.Proofs.YtnancafpecfcjaaDoor
set_option maxRecDepth 20000
open Go.RowKit

/-- A type of elements: the cells of one, what one must be, how many cells, its type and its slices' type. -/
structure Elt {α : Type} (ec : α → List Value) (P : α → Prop) (n : Nat) (T SL : TypeId) : Prop where
  pos : 0 < n
  len : ∀ a, P a → (ec a).length = n
  one : ∀ a, ∀ u ∈ ec a, u.oneCell' = true
  under : Tryd.prog.underlying SL = some (.slice T)
  cells : Tryd.prog.cellsOf T = n
  info : ∃ i z, Tryd.prog.info? T = some i ∧ i.zero = some z ∧ i.size = n ∧ i.bytes ≤ 100000 ∧ z.cells.size = n

section
variable {α : Type} (ec : α → List Value) (n : Nat)
/-- From address A on the elements L lie. -/
def ElsA (w : World) (A : Option Addr) (L : List α) : Prop :=
  0 < L.length → ∃ b off, A = some ⟨b, off, none⟩ ∧ b < w.heap.size ∧ ∀ j (h : j < L.length), w.rangeAt b (off + j * n) (ec L[j])
/-- The value is a slice that reads as the elements L. -/
def Els (w : World) (v : Value) (L : List α) : Prop := ∃ A c, v = .slice A L.length c ∧ L.length ≤ c ∧ c ≤ maxLen ∧ ElsA ec n w A L
/-- The value is a slice of the call's own, from block B on, that holds the elements L. -/
def OwnE (T : TypeId) (B : Nat) (w : World) (v : Value) (L : List α) : Prop := w.ownsRow B T n v L.length (L.map ec).flatten
end
theorem range_kept {w w' : World} {b o : Nat} {l : List Value} (h : w.rangeAt b o l) (hk : w'.heap[b]? = w.heap[b]?) : w'.rangeAt b o l := fun j u hu => (World.cell?_of_block hk).trans (h j u hu)
section
variable {α : Type} {ec : α → List Value} {n : Nat} {w w' : World} {A : Option Addr} {v : Value} {L : List α}
theorem ElsA.nil (w : World) (A : Option Addr) : ElsA ec n w A [] := fun h => absurd h (by simp)
theorem ElsA.below (h : ElsA ec n w A L) (hb : Below w.heap.size w w') : ElsA ec n w' A L := fun hl => by
  obtain ⟨b, off, e, hlt, hc⟩ := h hl
  exact ⟨b, off, e, Nat.lt_of_lt_of_le hlt hb.size, fun j hj => range_kept (hc j hj) (hb.block b hlt)⟩
theorem Els.nil (w : World) : Els ec n w (.slice none 0 0) [] := ⟨none, 0, rfl, Nat.le_refl _, Nat.zero_le _, ElsA.nil _ _⟩
theorem Els.below (h : Els ec n w v L) (hb : Below w.heap.size w w') : Els ec n w' v L := by
  obtain ⟨A, c, rfl, h1, h2, h3⟩ := h
  exact ⟨A, c, rfl, h1, h2, h3.below hb⟩
theorem Els.len (h : Els ec n w v L) : L.length ≤ maxLen := by
  obtain ⟨_, _, _, h1, h2, _⟩ := h
  omega
theorem Els.shape (h : Els ec n w v L) : ∃ A c, v = .slice A L.length c := by
  obtain ⟨A, c, e, _⟩ := h
  exact ⟨A, c, e⟩
theorem Els.at_ {k c : Nat} (h : Els ec n w (.slice A k c) L) : k = L.length ∧ L.length ≤ c ∧ c ≤ maxLen ∧ ElsA ec n w A L := by
  obtain ⟨A', c', e, h1, h2, h3⟩ := h
  injection e with e1 e2 e3
  subst e1 e2 e3
  exact ⟨rfl, h1, h2, h3⟩
end
section
variable {α : Type} {ec : α → List Value} {P : α → Prop} {n : Nat} {T SL : TypeId} {w w' : World} {v : Value} {L : List α} {B : Nat}
theorem Elt.ecs_length (E : Elt ec P n T SL) (hL : ∀ a ∈ L, P a) : (L.map ec).flatten.length = L.length * n := by
  induction L with
  | nil => simp
  | cons a L ih =>
    rw [List.map_cons, List.flatten_cons, List.length_append, ih (fun x hx => hL x (List.mem_cons_of_mem _ hx)), E.len a (hL a (by simp)), List.length_cons, Nat.succ_mul, Nat.add_comm]
theorem Elt.ecs_at (E : Elt ec P n T SL) (hL : ∀ a ∈ L, P a) {j : Nat} (hj : j < L.length) {k : Nat} (hk : k < n) : (L.map ec).flatten[j * n + k]? = (ec L[j])[k]? := by
  induction L generalizing j with
  | nil => simp at hj
  | cons a L ih =>
    have ha := E.len a (hL a (by simp))
    rw [List.map_cons, List.flatten_cons]
    cases j with
    | zero =>
      rw [Nat.zero_mul, Nat.zero_add, List.getElem?_append_left (by rw [ha]; exact hk)]
      rfl
    | succ j =>
      rw [List.getElem?_append_right (by rw [ha, Nat.succ_mul]; omega), ha, show (j + 1) * n + k - n = j * n + k from by rw [Nat.succ_mul]; omega]
      exact ih (fun x hx => hL x (List.mem_cons_of_mem _ hx)) (by simpa using hj)
theorem Elt.ecs_get (E : Elt ec P n T SL) (hL : ∀ a ∈ L, P a) {i : Nat} {u : Value} (h : (L.map ec).flatten[i]? = some u) : ∃ (hj : i / n < L.length), (ec L[i / n])[i % n]? = some u := by
  have hi := (List.getElem?_eq_some_iff.1 h).1
  rw [E.ecs_length hL] at hi
  have hj : i / n < L.length := (Nat.div_lt_iff_lt_mul E.pos).2 hi
  refine ⟨hj, ?_⟩
  have := E.ecs_at hL hj (Nat.mod_lt i E.pos)
  rw [Nat.div_add_mod' i n, h] at this
  exact this.symm
theorem Elt.ecs_one (E : Elt ec P n T SL) (L : List α) : ∀ u ∈ (L.map ec).flatten, u.oneCell' = true := by
  intro u hu
  obtain ⟨l, hl, hu⟩ := List.mem_flatten.1 hu
  obtain ⟨a, _, rfl⟩ := List.mem_map.1 hl
  exact E.one a u hu
theorem OwnE.nil (B : Nat) (w : World) : OwnE ec n T B w (.slice none 0 0) [] := World.ownsRow_nil _ _ _ _
theorem OwnE.els (h : OwnE ec n T B w v L) (E : Elt ec P n T SL) (hL : ∀ a ∈ L, P a) : Els ec n w v L := by
  rcases h.2 with ⟨rfl, h0⟩ | ⟨g, cap, cur, rfl, _, hh, hn, hm, hs, ht⟩
  · have : L = [] := List.eq_nil_of_length_eq_zero h0
    subst this
    exact Els.nil w
  · refine ⟨_, cap, rfl, hn, hm, fun _ => ⟨g, 0, rfl, lt_of_block hh, fun j hj k u hu => ?_⟩⟩
    have hk : k < n := by
      have := (List.getElem?_eq_some_iff.1 hu).1
      rw [E.len _ (hL _ (List.getElem_mem hj))] at this
      exact this
    have hlt : j * n + k < L.length * n := Nat.lt_of_lt_of_le (show j * n + k < (j + 1) * n by rw [Nat.succ_mul]; omega) (Nat.mul_le_mul_right n hj)
    rw [Nat.zero_add, cell_of_row w g _ _ _ (0, 0) hh, ← Array.getElem?_toList]
    have e := E.ecs_at hL hj hk
    rw [hu, ← ht, List.getElem?_take_of_lt hlt] at e
    exact e
theorem OwnE.more (h : OwnE ec n T B w v L) {B' : Nat} (hB : B' ≤ B) : OwnE ec n T B' w v L := by
  refine ⟨h.1, ?_⟩
  rcases h.2 with h0 | ⟨g, cap, cur, e, hg, r⟩
  · exact .inl h0
  · exact .inr ⟨g, cap, cur, e, by omega, r⟩
theorem OwnE.keep (h : OwnE ec n T B w v L) (hk : ∀ b, b < w.heap.size → v.ownBlock = some b → w'.heap[b]? = w.heap[b]?) : OwnE ec n T B w' v L := by
  refine ⟨h.1, ?_⟩
  rcases h.2 with h0 | ⟨g, cap, cur, rfl, hg, hh, r⟩
  · exact .inl h0
  · exact .inr ⟨g, cap, cur, rfl, hg, (hk g (lt_of_block hh) rfl).trans hh, r⟩
theorem OwnE.below (h : OwnE ec n T B w v L) (hb : Below w.heap.size w w') : OwnE ec n T B w' v L := h.keep fun b hlt _ => hb.block b hlt
theorem OwnE.alloc (h : OwnE ec n T B w v L) (o : Obj) : OwnE ec n T B (w.alloc o) v L := h.below ((Below.refl _ _).alloc (Nat.le_refl _) o)
theorem OwnE.far (h : OwnE ec n T B w v L) {g : Nat} (hg : w.grownBy w' (some g)) (hB : g < B) : OwnE ec n T B w' v L := h.keep fun b hlt e => hg.block b hlt (fun e' => by
  have := (World.ownsRow.lt h b e).1
  injection e' with e'
  omega)
theorem OwnE.set (h : OwnE ec n T B w v L) {g : Nat} (hB : g < B) (i : Nat) (u : Value) : OwnE ec n T B (w.setCell ⟨g, i, none⟩ u) v L := h.keep fun b _ e => Below.heap_setCell w _ u b (fun e' => by
  have := (World.ownsRow.lt h b e).1
  simp only at e'
  omega)
theorem OwnE.row (h : OwnE ec n T B w v L) {g : Nat} {C : Array Value} (hB : g < B) : OwnE ec n T B (w.setRow g C) v L := h.keep fun b _ e => setRow_other w g b _ (fun e' => by
  have := (World.ownsRow.lt h b e).1
  omega)
theorem OwnE.shape (h : OwnE ec n T B w v L) : ∃ A c, v = .slice A L.length c := by
  rcases h.2 with ⟨rfl, h0⟩ | ⟨g, cap, cur, rfl, _⟩
  · exact ⟨none, 0, by rw [h0]⟩
  · exact ⟨_, cap, rfl⟩
/-- One element in a block of its own. -/
theorem els_one (w : World) (a : α) (C : Array Value) (T : TypeId) (h : (ec a).toArray = C) : Els ec n (w.alloc (.cells C T)) (.slice (some ⟨w.heap.size, 0, none⟩) 1 1) [a] := by
  subst h
  refine ⟨_, 1, rfl, Nat.le_refl _, by unfold maxLen; omega, fun _ => ⟨w.heap.size, 0, rfl, by simp, fun j hj k u hu => ?_⟩⟩
  obtain rfl : j = 0 := by simpa using hj
  rw [Nat.zero_mul, Nat.zero_add, cell_blk (heap_alloc_new w _) k]
  simpa using hu
theorem Elt.run_append (E : Elt ec P n T SL) {x : Value} {l m : List α} (ty : TypeId) (hm : ∀ a ∈ m, P a) (hv : OwnE ec n T B w v l) (hx : Els ec n w x m) (hs : l.length + m.length ≤ 1000000) (hB : B ≤ w.heap.size) :
    ∃ v' w', (Builtin.append_ #[SL, SL] ty #[v, x]).run Tryd.prog w = .ok v' w' ∧ OwnE ec n T B w' v' (l ++ m) ∧ w.grownBy w' v.ownBlock ∧ (v'.ownBlock = v.ownBlock ∨ v'.ownBlock = some w.heap.size) := by
  obtain ⟨i0, z, hi, hz0, hz1, hz2, hzc⟩ := E.info
  obtain ⟨A, c, rfl, hmc, hcm, hr⟩ := hx
  have hlm : (l ++ m).length = l.length + m.length := by simp
  rcases A with _ | ad
  · have h0 : m = [] := by
      rcases m with _ | ⟨x, m⟩
      · rfl
      · obtain ⟨_, _, h, _⟩ := hr (by simp)
        cases h
    subst h0
    refine ⟨v, w, ?_, by rw [List.append_nil]; exact hv, World.grownBy.refl w _, .inl rfl⟩
    rcases hv.2 with ⟨rfl, h0⟩ | ⟨g, cap, cur, rfl, _, _, hnc, _⟩
    · simp [Builtin.append_, run_underlying E.under, sizeOf, typeInfo, hi, Builtin.lenOf, Builtin.firstCells]
    · simp [Builtin.append_, run_underlying E.under, sizeOf, typeInfo, hi, Builtin.lenOf, Builtin.firstCells, hnc, storeCells]
  · have hcells : ∀ j u, (m.map ec).flatten[j]? = some u → w.cell? (ad.add j) = some u := by
      intro j u hu
      obtain ⟨hj, hu'⟩ := E.ecs_get hm hu
      obtain ⟨b, off, e, _, hc⟩ := hr (Nat.lt_of_le_of_lt (Nat.zero_le _) hj)
      injection e with e
      subst e
      rw [addr_add]
      have := hc (j / n) hj (j % n) u hu'
      rw [show off + j / n * n + j % n = off + j from by rw [Nat.add_assoc, Nat.div_add_mod' j n]] at this
      exact this
    have hby : (l.length + m.length) * i0.bytes ≤ 140737488355328 := Nat.le_trans (Nat.mul_le_mul hs hz2) (by decide)
    obtain ⟨v', w', hrun, h2, h3, _, h5⟩ := run_append_own_at (P := Tryd.prog) w B SL ty T i0 z n i0.bytes E.under hi hz0 hz1 rfl hzc E.pos v l.length (l.map ec).flatten hv ad m.length c (m.map ec).flatten (E.ecs_length hm) hcells (E.ecs_one m) (by unfold maxLen; omega) hby hB
    refine ⟨v', w', hrun, ?_, h3, h5⟩
    unfold OwnE
    rw [hlm, List.map_append, List.flatten_append]
    exact h2
theorem Elt.wp_append (E : Elt ec P n T SL) {o : Oper} {a : Act} {K : Act → World → Prop} {Q : Exit → Act → World → Prop} (s y : Operand) (ho : o.op = .call { callee := .builtin .append, args := #[s, y], argTypes := #[SL, SL] })
    {x : Value} {l m : List α} (hes : a.eval s = v) (hey : a.eval y = x) (hm : ∀ a ∈ m, P a) (hv : OwnE ec n T B w v l) (hx : Els ec n w x m) (hs : l.length + m.length ≤ 1000000) (hB : B ≤ w.heap.size)
    (h : ∀ v' w', OwnE ec n T B w' v' (l ++ m) → w.grownBy w' v.ownBlock → (v'.ownBlock = v.ownBlock ∨ v'.ownBlock = some w.heap.size) → K (a.put o.dst v') w') : o.wp Tryd.prog a w K Q := by
  obtain ⟨v', w', hrun, h2, h3, h4⟩ := E.run_append (w := w) o.type hm hv hx hs hB
  unfold Oper.wp execOp
  simp only [ho, resolve, invoke, builtin, Sem.run_bind, Sem.run_pure, Result.andThen_ok, List.map_toArray, List.map_cons, List.map_nil, hes, hey, hrun]
  exact h v' w' h2 h3 h4
theorem Elt.wpList_append (E : Elt ec P n T SL) {ops : Array Oper} {rest : List Oper} {o : Oper} {a : Act} {Q : Exit → Act → World → Prop} (hgd : o.guard = none) (s y : Operand) (ho : o.op = .call { callee := .builtin .append, args := #[s, y], argTypes := #[SL, SL] })
    {x : Value} {l m : List α} (hes : a.eval s = v) (hey : a.eval y = x) (hm : ∀ a ∈ m, P a) (hv : OwnE ec n T B w v l) (hx : Els ec n w x m) (hs : l.length + m.length ≤ 1000000) (hB : B ≤ w.heap.size)
    (h : ∀ v' w', OwnE ec n T B w' v' (l ++ m) → w.grownBy w' v.ownBlock → (v'.ownBlock = v.ownBlock ∨ v'.ownBlock = some w.heap.size) → wpList Tryd.prog ops Q rest (a.put o.dst v') w') : wpList Tryd.prog ops Q (o :: rest) a w :=
  wpList_plain hgd fun _ hK => E.wp_append s y ho hes hey hm hv hx hs hB fun v' w' h2 h3 h4 => hK _ _ (h v' w' h2 h3 h4)
end
end Go.Proofs.YtnancafpecfcjaaDoor

/-
  Attestations as elements of slices; one amid a row, loaded.
-/
namespace Go.Proofs.YtnancafpecfcjaaDoor
set_option maxRecDepth 20000
open Go.RowKit

theorem info_at : (Tryd.prog.info? 27).map (fun i => (i.zero, i.size, decide (i.bytes ≤ 100000))) = some (some (.agg (atc atZ)), 101, true) := by kernel_rfl
/-- Attestations as elements of slices. -/
theorem eltAt : Elt atl AtM.Ok 101 27 22 := by
  refine ⟨by omega, fun _ h => atl_length h, atl_one, by kernel_rfl, by kernel_rfl, ?_⟩
  obtain ⟨i, hi, h⟩ := Option.map_eq_some_iff.1 info_at
  injection h with h1 h
  injection h with h2 h3
  exact ⟨i, _, hi, h1, h2, of_decide_eq_true h3, by show (atc atZ).size = 101; exact atc_size atZ_ok⟩
/-- A load of an attestation amid a row. -/
theorem loadAtt_in {w : World} {g o : Nat} {a : AtM} (hr : w.rangeAt g o (atl a)) (ho : a.Ok) : loadAtt (.pointer (some ⟨g, o, none⟩)) w = .ok (.value (.agg (atc a))) w := by
  have := run_loadAt_mid (P := Tryd.prog) w g o 27 (atl a) _ hr under_att rfl (by rw [size_att, atl_length ho])
  unfold loadAtt execOp
  simp only [Sem.run_bind, this, Result.andThen_ok, Sem.run_pure]
  rfl
end Go.Proofs.YtnancafpecfcjaaDoor

/-
  Certificates and signatures in memory: their cells, loads and stores of whole ones, '==' of signatures.
-/
namespace Go.Proofs.YtnancafpecfcjaaDoor
set_option maxRecDepth 20000
open Go.RowKit

/-- A signature's cells. -/
def scl (s : SgM) : List Value := .int .i64 s.bo :: bcells s.tg
def sgc (s : SgM) : Array Value := (scl s).toArray
theorem scl_length {s : SgM} (h : s.Ok) : (scl s).length = 33 := by
  unfold scl
  rw [List.length_cons, bcells_length, h]
theorem sgc_size {s : SgM} (h : s.Ok) : (sgc s).size = 33 := by
  unfold sgc
  rw [List.size_toArray, scl_length h]
theorem scl_one (s : SgM) : ∀ u ∈ scl s, u.oneCell' = true := by
  intro u hu
  rcases List.mem_cons.1 hu with rfl | hu
  · rfl
  · exact bcells_one _ u hu
theorem sgc_one (s : SgM) : (sgc s).all (·.oneCell') = true := all_oneCell_toArray (scl_one s)
def sgZ : SgM := ⟨0, z32⟩
theorem sgZ_ok : sgZ.Ok := rfl
theorem under_sg : Tryd.prog.underlying 63 = some (.struct (Tryd.prog.fieldsOf 63)) := by kernel_rfl
theorem size_sg : (Tryd.prog.info? 63).map (·.size) = some 33 := by kernel_rfl
theorem info_sg : (Tryd.prog.info? 63).map (fun i => (i.zero, i.size, decide (i.bytes ≤ 100000))) = some (some (.agg (sgc sgZ)), 33, true) := by kernel_rfl
/-- Signatures as elements of slices. -/
theorem eltSg : Elt scl SgM.Ok 33 63 28 := by
  refine ⟨by omega, fun _ h => scl_length h, scl_one, by kernel_rfl, by kernel_rfl, ?_⟩
  obtain ⟨i, hi, h⟩ := Option.map_eq_some_iff.1 info_sg
  injection h with h1 h
  injection h with h2 h3
  exact ⟨i, _, hi, h1, h2, of_decide_eq_true h3, by show (sgc sgZ).size = 33; exact sgc_size sgZ_ok⟩
/-- A load of a whole signature: kept whole. -/
noncomputable def loadSg (v : Value) (w : World) : Result Next := Sem.run Tryd.prog (execOp (fun _ => v) { dst := none, op := .load 63 (.tmp 0), type := 0, pos := "", after := #[], guard := none }) w
theorem exec_load_sg (r : Operand → Value) (x : Operand) (dst : Option Tmp) (ty : TypeId) (pos : String) (after : Array Edge) (guard : Option (Nat × Bool)) (w : World) :
    Sem.run Tryd.prog (execOp r { dst := dst, op := .load 63 x, type := ty, pos := pos, after := after, guard := guard }) w = loadSg (r x) w := rfl
theorem loadSg_mid {w : World} {g o : Nat} {s : SgM} (hr : w.rangeAt g o (scl s)) (ho : s.Ok) : loadSg (.pointer (some ⟨g, o, none⟩)) w = .ok (.value (.agg (sgc s))) w := by
  have := run_loadAt_mid (P := Tryd.prog) w g o 63 (scl s) _ hr under_sg rfl (by rw [size_sg, scl_length ho])
  unfold loadSg execOp
  simp only [Sem.run_bind, this, Result.andThen_ok, Sem.run_pure]
  rfl
theorem sg_range {w : World} {g o : Nat} {s : SgM} (hr : w.rangeAt g o (scl s)) : w.cell? ⟨g, o, none⟩ = some (.int .i64 s.bo) ∧ w.rangeAt g (o + 1) (bcells s.tg) := by
  refine ⟨hr 0 _ rfl, fun j u hu => ?_⟩
  rw [show o + 1 + j = o + (j + 1) from by omega]
  exact hr (j + 1) u hu

/-- A certificate's cells: its signatures are the slice s. -/
def ctc (c : CtM) (s : Value) : Array Value := (atl c.att ++ [s]).toArray
theorem ctc_size {c : CtM} (s : Value) (h : c.att.Ok) : (ctc c s).size = 102 := by simp [ctc, atl_length h]
/-- The value is a certificate. -/
def CtV (w : World) (v : Value) (c : CtM) : Prop := ∃ s, v = .agg (ctc c s) ∧ c.Ok ∧ Els scl 33 w s c.sg
theorem CtV.below {w w' : World} {v : Value} {c : CtM} (h : CtV w v c) (hb : Below w.heap.size w w') : CtV w' v c := by
  obtain ⟨s, rfl, h1, h2⟩ := h
  exact ⟨s, rfl, h1, h2.below hb⟩
/-- A certificate is boxed in g. -/
def BoxC (w : World) (g : Nat) (c : CtM) (s : Value) : Prop := w.heap[g]? = some (.cells (ctc c s) 30 (0, 0))
section
variable {w w' : World} {g : Nat} {c : CtM} {s : Value}
theorem BoxC.new (w : World) (c : CtM) (s : Value) : BoxC (w.alloc (.cells (ctc c s) 30)) w.heap.size c s := heap_alloc_new w _
theorem BoxC.lt (h : BoxC w g c s) : g < w.heap.size := lt_of_block h
theorem BoxC.below {B : Nat} (h : BoxC w g c s) (hb : Below B w w') (hg : g < B) : BoxC w' g c s := (hb.block g hg).trans h
theorem BoxC.free (h : BoxC w g c s) (i : Nat) : w.frozen? ⟨g, i, none⟩ = false := free_blk h i
theorem BoxC.cell (h : BoxC w g c s) (i : Nat) : w.cell? ⟨g, i, none⟩ = (atl c.att ++ [s])[i]? := by
  rw [cell_blk h i]
  unfold ctc
  rw [List.getElem?_toArray]
theorem BoxC.att (h : BoxC w g c s) : w.rangeAt g 0 (atl c.att) := fun j u hu => by
  rw [Nat.zero_add, h.cell, List.getElem?_append_left (List.getElem?_eq_some_iff.1 hu).1]
  exact hu
theorem BoxC.sigs (h : BoxC w g c s) (ho : c.att.Ok) : w.cell? ⟨g, 101, none⟩ = some s := by
  rw [h.cell, List.getElem?_append_right (by rw [atl_length ho]; omega), atl_length ho]
  rfl
theorem BoxC.bo (h : BoxC w g c s) : w.cell? ⟨g, 0, none⟩ = some (.int .i64 c.att.bo) := h.att 0 _ rfl
theorem BoxC.tag (h : BoxC w g c s) (ho : c.att.Ok) : w.rangeAt g 69 (bcells c.att.tg) := fun j u hu => by
  have e := h.att (69 + j) u (by
    rw [atl_tag, List.append_nil, List.getElem?_append_right (by simp only [List.length_append, bcells_length, ho.ha, ho.pa, List.length_cons, List.length_nil]; omega)]
    simp only [List.length_append, bcells_length, ho.ha, ho.pa, List.length_cons, List.length_nil]
    rw [show 69 + j - (0 + 1 + 1 + 1 + 1 + (32 + (0 + 1 + 32))) = j from by omega]
    exact hu)
  rwa [Nat.zero_add] at e
end
/-- A load of a whole certificate: kept whole. -/
noncomputable def loadCt (v : Value) (w : World) : Result Next := Sem.run Tryd.prog (execOp (fun _ => v) { dst := none, op := .load 30 (.tmp 0), type := 0, pos := "", after := #[], guard := none }) w
theorem exec_load_ct (r : Operand → Value) (x : Operand) (dst : Option Tmp) (ty : TypeId) (pos : String) (after : Array Edge) (guard : Option (Nat × Bool)) (w : World) :
    Sem.run Tryd.prog (execOp r { dst := dst, op := .load 30 x, type := ty, pos := pos, after := after, guard := guard }) w = loadCt (r x) w := rfl
theorem under_ct : Tryd.prog.underlying 30 = some (.struct (Tryd.prog.fieldsOf 30)) := by kernel_rfl
theorem size_ct : (Tryd.prog.info? 30).map (·.size) = some 102 := by kernel_rfl
theorem loadCt_row {w : World} {g : Nat} {C : Array Value} {T : TypeId} (h : w.heap[g]? = some (.cells C T (0, 0))) (hs : C.size = 102) : loadCt (.pointer (some ⟨g, 0, none⟩)) w = .ok (.value (.agg C)) w := by
  have := run_loadAt_mid (P := Tryd.prog) w g 0 30 C.toList _ (fun j v hj => by rw [Nat.zero_add, cell_blk h j]; simpa using hj) under_ct rfl (by rw [size_ct]; simp [hs])
  simp only [Array.toArray_toList] at this
  unfold loadCt execOp
  simp only [Sem.run_bind, this, Result.andThen_ok, Sem.run_pure]
theorem ctc_one {w : World} {c : CtM} {s : Value} (h : Els scl 33 w s c.sg) : (ctc c s).all (·.oneCell') = true := by
  obtain ⟨A, k, rfl, _⟩ := h
  unfold ctc
  refine all_oneCell_toArray ?_
  intro u hu
  rcases List.mem_append.1 hu with hu | hu
  · exact atl_one _ u hu
  · obtain rfl := List.mem_singleton.1 hu
    rfl
theorem zero_ct : (Tryd.prog.info? 30).bind (·.zero) = some (.agg (ctc ctZ (.slice none 0 0))) := by kernel_rfl
theorem run_zero_ct (w : World) : (zeroValue 30).run Tryd.prog w = .ok (.agg (ctc ctZ (.slice none 0 0))) w := by
  have h := zero_ct
  cases hq : Tryd.prog.info? 30 with
  | none => rw [hq] at h; cases h
  | some i =>
    rw [hq] at h
    have hz : i.zero = some (.agg (ctc ctZ (.slice none 0 0))) := h
    simp [zeroValue, typeInfo, hq, hz]
/-- The certificate that has nothing. -/
noncomputable def buildCt (w : World) : Result Next := Sem.run Tryd.prog (execOp (fun _ => undef) { dst := none, op := .build 30 #[], type := 0, pos := "", after := #[], guard := none }) w
theorem exec_build_ct (r : Operand → Value) (dst : Option Tmp) (ty : TypeId) (pos : String) (after : Array Edge) (guard : Option (Nat × Bool)) (w : World) :
    Sem.run Tryd.prog (execOp r { dst := dst, op := .build 30 #[], type := ty, pos := pos, after := after, guard := guard }) w = buildCt w := by
  unfold buildCt execOp
  simp
theorem buildCt_eq (w : World) : buildCt w = .ok (.value (.agg (ctc ctZ (.slice none 0 0)))) w := by
  unfold buildCt
  go_simp
  rfl
/-- A variable for a certificate. -/
noncomputable def allocCt (w : World) : Result Next := Sem.run Tryd.prog (execOp (fun _ => undef) { dst := none, op := .alloc 30, type := 0, pos := "", after := #[], guard := none }) w
theorem exec_alloc_ct (r : Operand → Value) (dst : Option Tmp) (ty : TypeId) (pos : String) (after : Array Edge) (guard : Option (Nat × Bool)) (w : World) :
    Sem.run Tryd.prog (execOp r { dst := dst, op := .alloc 30, type := ty, pos := pos, after := after, guard := guard }) w = allocCt w := rfl
theorem allocCt_eq (w : World) : allocCt w = .ok (.value (.pointer (some ⟨w.heap.size, 0, none⟩))) (w.alloc (.cells (ctc ctZ (.slice none 0 0)) 30)) := by
  unfold allocCt execOp
  simp only [Sem.run_bind, Instr.alloc, run_zero_ct, newVar, newRow, run_newObj_alloc, Sem.run_pure, Result.andThen_ok, Value.cells]
noncomputable def storeCt (p v : Value) (w : World) : Result Next := Sem.run Tryd.prog (execOp (fun x => match x with
  | .tmp 0 => p
  | _ => v) { dst := none, op := .store 30 (.tmp 0) (.tmp 1), type := 0, pos := "", after := #[], guard := none }) w
theorem exec_store_ct (r : Operand → Value) (x y : Operand) (dst : Option Tmp) (ty : TypeId) (pos : String) (after : Array Edge) (guard : Option (Nat × Bool)) (w : World) :
    Sem.run Tryd.prog (execOp r { dst := dst, op := .store 30 x y, type := ty, pos := pos, after := after, guard := guard }) w = storeCt (r x) (r y) w := rfl
/-- The world behind a store of a whole certificate: kept whole. -/
def setCt (w : World) (g : Nat) (C : Array Value) : World := w.setRow g C
theorem storeCt_eq {w : World} {g : Nat} {t : TypeId} {C0 C : Array Value} (hg : w.heap[g]? = some (.cells C0 t (0, 0))) (h0 : C0.size = 102) (hC : C.size = 102) (h1 : C.all (·.oneCell') = true) :
    storeCt (.pointer (some ⟨g, 0, none⟩)) (.agg C) w = .ok .skip (setCt w g C) := by
  have := run_storeVar_row (P := Tryd.prog) w g t 30 C0 C hg (by rw [size_ct, hC]) (by rw [h0, hC]) h1
  unfold storeCt execOp
  simp only [Instr.storeAt, Instr.sureAddr, Sem.run_bind, Sem.run_pure, Result.andThen_ok, this]
  rfl
theorem setCt_other (w : World) {g k : Nat} (C : Array Value) (hk : k ≠ g) : (setCt w g C).heap[k]? = w.heap[k]? := setRow_other w g k _ hk
theorem setCt_same {w : World} {g : Nat} {t : TypeId} {C0 C : Array Value} (hg : w.heap[g]? = some (.cells C0 t (0, 0))) : (setCt w g C).heap[g]? = some (.cells C t (0, 0)) := setRow_heap w g _ _ t _ hg
theorem setCt_size (w : World) (g : Nat) (C : Array Value) : (setCt w g C).heap.size = w.heap.size := by simp [setCt]
theorem setCt_below {B g : Nat} {a w : World} {C : Array Value} (hb : Below B a w) (hg : B ≤ g) : Below B a (setCt w g C) := below_setRow hb hg _
theorem setCt_self {w : World} {g : Nat} {t : TypeId} {C : Array Value} {fr : Nat × Nat} (hg : w.heap[g]? = some (.cells C t fr)) : setCt w g C = w := by
  have e : ∀ f : Obj → Obj, f (.cells C t fr) = .cells C t fr → w.heap.modify g f = w.heap := by
    intro f hf
    apply Array.ext_getElem?
    intro k
    rw [Array.getElem?_modify]
    by_cases h : g = k
    · subst h
      rw [if_pos rfl, hg]
      simp [hf]
    · rw [if_neg h]
  unfold setCt World.setRow
  rw [e _ rfl]
theorem setCt_alloc (w : World) (T : TypeId) (C0 C : Array Value) : setCt (w.alloc (.cells C0 T)) w.heap.size C = w.alloc (.cells C T) := by
  have hm : ∀ (a : Array Obj) (x : Obj) (f : Obj → Obj), (a.push x).modify a.size f = a.push (f x) := by
    intro a x f
    apply Array.ext_getElem?
    intro k
    rw [Array.getElem?_modify]
    by_cases h : a.size = k
    · subst h
      simp
    · rw [if_neg h, Array.getElem?_push, Array.getElem?_push]
      rw [if_neg (fun e => h e.symm), if_neg (fun e => h e.symm)]
  unfold setCt World.setRow World.alloc
  simp only [hm]
/-- A variable for a certificate, and what is told stored into it. -/
theorem ct_var (w : World) {Z S : Array Value} (hZ : Z.size = 102) (hS : S.size = 102) (h1 : S.all (·.oneCell') = true) :
    storeCt (.pointer (some ⟨w.heap.size, 0, none⟩)) (.agg S) (w.alloc (.cells Z 30)) = .ok .skip (w.alloc (.cells S 30)) := by
  rw [storeCt_eq (heap_alloc_new w _) hZ hS h1, setCt_alloc]

/-- '==' of signatures. -/
theorem fields_sg : (Tryd.prog.fieldsOf 63).toList.map (fun f => (f.type, f.offset, f.name == "_")) = [(3, 0, false), (25, 1, false)] := by kernel_rfl
set_option maxHeartbeats 1600000 in
theorem eq_sg (a b : SgM) (ho : a.Ok) (hp : b.Ok) (w : World) : (Op.equalIn 10000 63 (.agg (sgc a)) (.agg (sgc b))).run Tryd.prog w = .ok (decide (a = b)) w := by
  have K : ∀ c : SgM, c.Ok → (sgc c)[0]? = some (.int .i64 c.bo) ∧ ((sgc c).toList.drop 1).take 32 = bcells c.tg := fun c hc =>
    ⟨rfl, drop_at (pre := [.int .i64 c.bo]) (m := bcells c.tg) (post := []) (by show scl c = _; unfold scl; simp) rfl (by rw [bcells_length]; exact hc)⟩
  obtain ⟨a0, a1⟩ := K a ho
  obtain ⟨b0, b1⟩ := K b hp
  have EI : ∀ x y : Int, (Op.equalIn 9999 3 (.int .i64 x) (.int .i64 y)).run Tryd.prog w = .ok (x == y) w := fun x y => run_equalIn_int (P := Tryd.prog) w 9998 3 .i64 .i64 x y under_att_int
  rw [run_equalIn_struct w 9999 _ _ _ under_sg (by kernel_rfl), eqF_of, fields_sg]
  rw [eqF_step (part_att_int a0) (part_att_int b0) (EI _ _), eqF_step (part_att_hash a1) (part_att_hash b1) (eq_hash_at 9997 _ _ ho hp w)]
  obtain ⟨p1, p2⟩ := a
  obtain ⟨q1, q2⟩ := b
  simp only [eqF, Sem.run_pure, SgM.mk.injEq, beq_iff_eq, decide_eq_true_eq]
  (repeat' split) <;> simp_all
theorem atc_by (a : AtM) (n : Int) : (atc a).setIfInBounds 0 (.int .i64 n) = atc { a with bo := n } := by
  unfold atc atl
  rw [List.setIfInBounds_toArray]
  rfl
end Go.Proofs.YtnancafpecfcjaaDoor

/-
  Numbers as elements of slices: each is one cell.
-/
namespace Go.Proofs.YtnancafpecfcjaaDoor
set_option maxRecDepth 20000
open Go.RowKit

/-- A slice that reads as the numbers l: each is one cell. -/
def icl (n : Int) : List Value := [.int .i64 n]
theorem info_int : (Tryd.prog.info? 3).map (fun i => (i.zero, i.size, decide (i.bytes ≤ 100000))) = some (some (.int .i64 0), 1, true) := by kernel_rfl
/-- Numbers as elements of slices. -/
theorem eltIc : Elt icl (fun _ => True) 1 3 36 := by
  refine ⟨by omega, fun _ _ => rfl, fun a u hu => by obtain rfl := List.mem_singleton.1 hu; rfl, by kernel_rfl, by kernel_rfl, ?_⟩
  obtain ⟨i, hi, h⟩ := Option.map_eq_some_iff.1 info_int
  injection h with h1 h
  injection h with h2 h3
  exact ⟨i, _, hi, h1, h2, of_decide_eq_true h3, rfl⟩
end Go.Proofs.YtnancafpecfcjaaDoor

/-
  The document's answer for an attestation's bytes: tithingref08.Bytes.
-/
namespace Go.Proofs.YtnancafpecfcjaaDoor
set_option maxRecDepth 20000
open Go.RowKit
attribute [local go_sem ↓] exec_load_att

end Go.Proofs.YtnancafpecfcjaaDoor

/-
  What cert's functions must tell.
-/
namespace Go.Proofs.YtnancafpecfcjaaDoor
set_option maxRecDepth 20000
open Go.RowKit

def CtMakeOk : Prop := ∀ (n : Int) (v : Value) (l : List AtM) (w : World), (Lit.int .i64 n).wf = true → Els atl 101 w v l → (∀ a ∈ l, a.Ok) → l.length ≤ 1000 → Kst 0 w →
  Calls Tryd.prog 8 #[.int .i64 n, v] w fun e w' => ∃ x, e = .returned (.tuple #[x, .int .i64 (makeC n l).2]) ∧ CtV w' x (makeC n l).1 ∧ Below w.heap.size w w'
def CtRightOk : Prop := ∀ (n : Int) (v : Value) (c : CtM) (w : World), (Lit.int .i64 n).wf = true → CtV w v c → c.sg.length ≤ 1000 → Kst 0 w →
  Calls Tryd.prog 11 #[.int .i64 n, v] w fun e w' => e = .returned (.bool (rightC n c)) ∧ Below w.heap.size w w'
def CtSameOk : Prop := ∀ (v u : Value) (c d : CtM) (w : World), CtV w v c → CtV w u d → c.sg.length ≤ 1000 → d.sg.length ≤ 1000 → Calls Tryd.prog 14 #[v, u] w fun e w' => e = .returned (.bool (decide (c = d))) ∧ Below w.heap.size w w'
/-- Bytes with a certificate's behind. -/
def putC (l : List UInt8) (c : CtM) : List UInt8 := if mayC c = true then l ++ bytesC c else l
def CtPutOk : Prop := ∀ (v u : Value) (l : List UInt8) (c : CtM) (w : World), Byt w v l → l.length ≤ 1000000 → CtV w u c → c.sg.length ≤ 1000 → Calls Tryd.prog 19 #[v, u] w fun e w' => ∃ x, e = .returned x ∧ Byt w' x (putC l c) ∧ Below w.heap.size w w'
def CtReadOk : Prop := ∀ (g : Nat) (l : List UInt8) (p : Nat) (r : Bool) (w : World), Rdr w g l p r → l.length ≤ 1000000 →
  Calls Tryd.prog 16 #[.pointer (some ⟨g, 0, none⟩)] w fun e w' => ∃ x, e = .returned (.tuple #[x, .bool (ctIs l p r)]) ∧ CtV w' x (ctOf l p r) ∧ (∃ p' r', Rdr w' g l p' r' ∧ (ctIs l p r = true → p' = (rawC l p r).2.1 ∧ r' = true)) ∧ w.grownBy w' (some g)
def CtSignersOk : Prop := ∀ (v : Value) (c : CtM) (w : World), CtV w v c → c.sg.length ≤ 1000 → Calls Tryd.prog 12 #[v] w fun e w' => ∃ x, e = .returned x ∧ Els icl 1 w' x (c.sg.map (·.bo)) ∧ Below w.heap.size w w'
end Go.Proofs.YtnancafpecfcjaaDoor

/-
  A list of elements, as it came in by a slice.
-/
namespace Go.Proofs.YtnancafpecfcjaaDoor
set_option maxRecDepth 20000
open Go.ChangeShapes Go.WideShapes Go.ChangeAt Go.RowKit Go.Deep

section
variable {H : Type} {enc : TypeId × Value → H} {w : World} {base : Nat} {spare : Nat → Bool} {held : Bool} {fuel : Nat} {cs : List Value} {x : DataW H × List MemPlace}
theorem Elt.trod {α : Type} {ec : α → List Value} {P : α → Prop} {n : Nat} {T SL : TypeId} (E : Elt ec P n T SL) (a0 : α) (h0 : P a0)
    (el : ∀ {fuel : Nat} {cs : List Value} {x : DataW H × List MemPlace}, DataW.trod enc Tryd.prog w base spare held fuel T cs = some x → ∃ a, P a ∧ cs = ec a)
    (h : DataW.trod enc Tryd.prog w base spare held fuel SL cs = some x) : ∃ v L, cs = [v] ∧ Els ec n w v L ∧ ∀ a ∈ L, P a := by
  rcases open_slice E.under h with ⟨rfl, _⟩ | ⟨a, len, cap, m, k, D, Pl, rfl, _, hl, hm, hmm, _, hi⟩
  · exact ⟨_, [], rfl, ⟨none, 0, rfl, Nat.le_refl _, Nat.zero_le _, ElsA.nil _ _⟩, fun t ht => by cases ht⟩
  · have hlm : len ≤ m := by rw [hmm]; split <;> omega
    rw [E.cells] at hi
    have hex : ∀ i, ∃ t : α, P t ∧ (i < len → ∀ j u, (ec t)[j]? = some u → w.cell? (a.add (i * n + j)) = some u) := by
      intro i
      by_cases hil : i < len
      · obtain ⟨cs', hcs, ht⟩ := hi i (by omega)
        obtain ⟨t, hb, rfl⟩ := el ht
        obtain ⟨_, hlen', hat⟩ := World.cells?_some hcs
        refine ⟨t, hb, fun _ j u hu => ?_⟩
        have hj : j < n := by
          have := (List.getElem?_eq_some_iff.1 hu).1
          rw [E.len t hb] at this
          exact this
        rw [← Go.Deep.add_add, hat j hj]
        exact hu
      · exact ⟨a0, h0, fun h => absurd h hil⟩
    refine ⟨_, (List.range len).map fun i => (hex i).choose, rfl, ⟨some a, cap, by simp, by simpa using hl, hm, fun h0' => ?_⟩, fun t ht => ?_⟩
    · have h1 : 0 < len := by simpa using h0'
      have hpos := E.pos
      obtain ⟨b, off, spot⟩ := a
      have hl0 : 0 < (ec (hex 0).choose).length := by rw [E.len _ (hex 0).choose_spec.1]; exact hpos
      have hsp := (hex 0).choose_spec.2 h1 0 _ (List.getElem?_eq_getElem hl0)
      have hspot : spot = none := by simpa [Addr.add] using World.cell?_spot hsp
      subst hspot
      refine ⟨b, off, rfl, ?_, fun i hil => ?_⟩
      · have := World.block_lt_of_cell? w _ hsp
        rw [addr_add] at this
        exact this
      · have hil' : i < len := by simpa using hil
        simp only [List.getElem_map, List.getElem_range]
        intro j u hu
        have := (hex i).choose_spec.2 hil' j u hu
        rw [addr_add] at this
        rw [← this, Nat.add_assoc]
    · obtain ⟨i, _, rfl⟩ := List.mem_map.1 ht
      exact (hex i).choose_spec.1
end
end Go.Proofs.YtnancafpecfcjaaDoor

/-
  A certificate, a list of attestations, as they came in by value.
-/
namespace Go.Proofs.YtnancafpecfcjaaDoor
set_option maxRecDepth 20000
open Go.ChangeShapes Go.WideShapes Go.ChangeAt Go.RowKit Go.Deep

section
variable {H : Type} {enc : TypeId × Value → H} {w : World} {base : Nat} {spare : Nat → Bool} {held : Bool} {fuel : Nat} {cs : List Value} {x : DataW H × List MemPlace}
theorem fields_sg2 : ∃ f0 f1 : Field, Tryd.prog.underlying 63 = some (.struct #[f0, f1]) ∧ (f0.type, f0.offset) = (3, 0) ∧ (f1.type, f1.offset) = (25, 1) :=
  ⟨_, _, Tryd.underlying63, rfl, rfl⟩
theorem trod_sg (h : DataW.trod enc Tryd.prog w base spare held fuel 63 cs = some x) : ∃ s : SgM, s.Ok ∧ cs = scl s := by
  obtain ⟨f0, f1, hu, e0, e1⟩ := fields_sg2
  injection e0 with t0 o0
  injection e1 with t1 o1
  obtain ⟨xs, m, _, _, hlen, hxl, hf⟩ := DataW.trod_struct hu h
  have hc : Tryd.prog.cellsOf 63 = 33 := by kernel_rfl
  have hci : Tryd.prog.cellsOf 3 = 1 := by kernel_rfl
  have hch : Tryd.prog.cellsOf 25 = 32 := by kernel_rfl
  rw [hc] at hlen
  have hx : xs.length = 2 := hxl
  have g0 := hf 0 f0 rfl
  have g1 := hf 1 f1 rfl
  rw [t0, o0, hci, List.getElem?_eq_getElem (by omega)] at g0
  rw [t1, o1, hch, List.getElem?_eq_getElem (by omega)] at g1
  obtain ⟨n0, c0, _, _⟩ := DataW.trod_int Tryd.underlying3 g0
  obtain ⟨tg, h1, c1⟩ := trod_hash g1
  refine ⟨⟨n0, tg⟩, h1, ?_⟩
  have e : cs = cs.drop 0 := rfl
  rw [e, drop_part c0, drop_part c1, List.drop_eq_nil_of_le (by omega)]
  unfold scl
  simp only [List.append_nil, List.cons_append, List.nil_append]
theorem trod_sgs (h : DataW.trod enc Tryd.prog w base spare held fuel 28 cs = some x) : ∃ v L, cs = [v] ∧ Els scl 33 w v L ∧ ∀ s ∈ L, s.Ok :=
  eltSg.trod sgZ sgZ_ok (fun h => trod_sg h) h
theorem trod_ats (h : DataW.trod enc Tryd.prog w base spare held fuel 22 cs = some x) : ∃ v L, cs = [v] ∧ Els atl 101 w v L ∧ ∀ a ∈ L, a.Ok :=
  eltAt.trod atZ atZ_ok (fun h => trod_at h) h
theorem fields_ct : ∃ f0 f1 : Field, Tryd.prog.underlying 30 = some (.struct #[f0, f1]) ∧ (f0.type, f0.offset) = (27, 0) ∧ (f1.type, f1.offset) = (28, 101) :=
  ⟨_, _, Tryd.underlying30, rfl, rfl⟩
theorem trod_ct (h : DataW.trod enc Tryd.prog w base spare held fuel 30 cs = some x) : ∃ c : CtM, CtV w (.agg cs.toArray) c := by
  obtain ⟨f0, f1, hu, e0, e1⟩ := fields_ct
  injection e0 with t0 o0
  injection e1 with t1 o1
  obtain ⟨xs, m, _, _, hlen, hxl, hf⟩ := DataW.trod_struct hu h
  have hc : Tryd.prog.cellsOf 30 = 102 := by kernel_rfl
  have hca : Tryd.prog.cellsOf 27 = 101 := by kernel_rfl
  have hcs : Tryd.prog.cellsOf 28 = 1 := by kernel_rfl
  rw [hc] at hlen
  have hx : xs.length = 2 := hxl
  have g0 := hf 0 f0 rfl
  have g1 := hf 1 f1 rfl
  rw [t0, o0, hca, List.getElem?_eq_getElem (by omega)] at g0
  rw [t1, o1, hcs, List.getElem?_eq_getElem (by omega)] at g1
  obtain ⟨a, ha, c0⟩ := trod_at g0
  obtain ⟨v, L, c1, hv, hL⟩ := trod_sgs g1
  refine ⟨⟨a, L⟩, v, ?_, ⟨ha, hL⟩, hv⟩
  have e : cs = cs.drop 0 := rfl
  rw [e, drop_part c0, drop_part c1, List.drop_eq_nil_of_le (by omega)]
  unfold ctc
  simp only [List.append_nil]
end
end Go.Proofs.YtnancafpecfcjaaDoor

/-
  A slice of two attestations: built as a whole.
-/
namespace Go.Proofs.YtnancafpecfcjaaDoor
set_option maxRecDepth 20000
open Go.RowKit

theorem fold_putSg : ∀ (vs : List Value) (k : Nat) (C : Array Value), (vs.zipIdx k).foldl (fun cs x => cs.setIfInBounds x.2 x.1) C = putAt C k vs
  | [], _, _ => rfl
  | v :: r, k, C => by
    simp only [List.zipIdx_cons, List.foldl_cons]
    exact fold_putSg r (k + 1) _
theorem fold_putSgO : ∀ (vs : List Value) (k o : Nat) (C : Array Value), (vs.zipIdx k).foldl (fun cs x => cs.setIfInBounds (o + x.2) x.1) C = putAt C (o + k) vs
  | [], _, _, _ => rfl
  | v :: r, k, o, C => by
    simp only [List.zipIdx_cons, List.foldl_cons]
    rw [fold_putSgO r (k + 1) o]
    rfl
noncomputable def sliceAt2 (u v : Value) (w : World) : Result Next := Sem.run Tryd.prog (execOp (fun x => match x with
  | .tmp 0 => u
  | _ => v) { dst := none, op := .buildSlice 22 2 #[(0, .tmp 0), (1, .tmp 1)], type := 0, pos := "", after := #[], guard := none }) w
theorem exec_slice_at2 (r : Operand → Value) (x y : Operand) (dst : Option Tmp) (ty : TypeId) (pos : String) (after : Array Edge) (guard : Option (Nat × Bool)) (w : World) :
    Sem.run Tryd.prog (execOp r { dst := dst, op := .buildSlice 22 2 #[(0, x), (1, y)], type := ty, pos := pos, after := after, guard := guard }) w = sliceAt2 (r x) (r y) w := by
  unfold sliceAt2 execOp
  simp
theorem sliceAt2_eq (a b : AtM) (ha : a.Ok) (hb : b.Ok) (w : World) : sliceAt2 (.agg (atc a)) (.agg (atc b)) w = .ok (.value (.slice (some ⟨w.heap.size, 0, none⟩) 2 2)) (w.alloc (.cells (atl a ++ atl b).toArray 27)) := by
  have hsz : (atc a).size = 101 := atc_size ha
  have hsz2 : (atc b).size = 101 := atc_size hb
  have e0 : (atc a).zipIdx = ((atl a).zipIdx).toArray := by unfold atc; simp
  have e2 : (atc b).zipIdx = ((atl b).zipIdx).toArray := by unfold atc; simp
  have hs : ∀ (l : List (Value × Nat)) (C : Array Value), (l.foldl (fun cs x => cs.setIfInBounds x.2 x.1) C).size = C.size := fun l => by
    induction l with
    | nil => intro C; rfl
    | cons x l ih => intro C; rw [List.foldl_cons, ih, Array.size_setIfInBounds]
  unfold sliceAt2
  go_simp
  have e := putAt_mid (atl a) [] (atl atZ) (atl atZ) (by rw [atl_length ha, atl_length atZ_ok])
  have e' := putAt_mid (atl b) (atl a) (atl atZ) [] (by rw [atl_length hb, atl_length atZ_ok])
  simp only [List.nil_append, List.append_nil, List.length_nil] at e e'
  rw [atl_length ha] at e'
  rw [← fold_putSg] at e
  rw [← e, ← Nat.add_zero 101, ← fold_putSgO] at e'
  exact congrArg (fun C => w.alloc (.cells C 27)) e'
theorem els_two (w : World) (a b : AtM) (ha : a.Ok) : Els atl 101 (w.alloc (.cells (atl a ++ atl b).toArray 27)) (.slice (some ⟨w.heap.size, 0, none⟩) 2 2) [a, b] := by
  refine ⟨_, 2, rfl, Nat.le_refl _, by unfold maxLen; omega, fun _ => ⟨w.heap.size, 0, rfl, by simp, fun j hj k u hu => ?_⟩⟩
  rw [Nat.zero_add, cell_blk (heap_alloc_new w _) (j * 101 + k), List.getElem?_toArray]
  match j, hj with
  | 0, _ =>
    have hu' : (atl a)[k]? = some u := hu
    have hk := (List.getElem?_eq_some_iff.1 hu').1
    rw [Nat.zero_mul, Nat.zero_add, List.getElem?_append_left hk]
    exact hu'
  | 1, _ =>
    have hu' : (atl b)[k]? = some u := hu
    rw [List.getElem?_append_right (by rw [atl_length ha]; omega), atl_length ha, show 1 * 101 + k - 101 = k from by omega]
    exact hu'
  | j + 2, h => exact absurd h (by simp)
end Go.Proofs.YtnancafpecfcjaaDoor

/-
  The reference's Quorum; the law's 'parts' tells whether numbers are unlike parts of so many.
-/
namespace Go.Proofs.YtnancafpecfcjaaDoor
set_option maxRecDepth 20000
open Go.RowKit

set_option maxHeartbeats 1600000 in
theorem refQuorum_any (n : Int) (w : World) : Calls Tryd.prog 29 #[.int .i64 n] w fun e w' => e = .returned (.int .i64 (quoS n : Int)) ∧ w = w' := by
  go_enter Tryd.func29, Tryd.ntmps29
  go_wp2_with fail
  go_loopw [3] (fun si wr => ∃ f : Nat, f ≤ 11 ∧ si = .int .i64 (f : Int) ∧ Hid (w = wr) ∧ Hid (∀ k : Nat, k < f → n ≠ 2 * (k : Int) + 1)) (fun si _ => 11 - (intOf si).toNat)
  case atStart => exact ⟨0, Nat.zero_le _, rfl, hid rfl, hid fun k hk => absurd hk (by omega)⟩
  case round =>
    obtain ⟨f, hf, rfl, HW, HNE⟩ := hrel
    by_cases hlt : f ≤ 10
    · have h10 : (f : Int) ≤ 10 := by omega
      by_cases he : n = 2 * (f : Int) + 1
      · have HE := hid he
        have hq : (n == 2 * (f : Int) + 1) = true := by rw [he]; exact beq_self_eq_true _
        clear he
        go_wp2_with fail
        go_ret
        refine ⟨ret_i64 ?_, HW.out⟩
        have := HE.out
        unfold quoS
        rw [if_pos (by omega)]
        omega
      · have HE := hid he
        have hq : (n == 2 * (f : Int) + 1) = false := by rw [beq_eq_false_iff_ne]; exact he
        clear he
        go_wp2_with fail
        go_roundw
        case rel =>
          refine ⟨f + 1, by omega, by go_num, HW, hid fun k hk => ?_⟩
          by_cases h : k < f
          · exact HNE.out k h
          · obtain rfl : k = f := by omega
            exact HE.out
        case measure => simp [intOf]; omega
    · have h10 : ¬ (f : Int) ≤ 10 := by omega
      go_wp2_with fail
      go_ret
      refine ⟨ret_i64 ?_, HW.out⟩
      unfold quoS
      rw [if_neg fun h => HNE.out (n / 2).toNat (by omega) (by omega)]
      rfl

/-- The value is a slice that reads as the integers l. -/
def Ints (w : World) (v : Value) (l : List Int) : Prop := ∃ A c, v = .slice A l.length c ∧ (0 < l.length → ∃ b off, A = some ⟨b, off, none⟩ ∧ ∀ j, j < l.length → w.cell? ⟨b, off + j, none⟩ = some (.int .i64 (l.getD j 0)))
theorem row_ints {w : World} {a : Option Addr} {len cap : Nat} {zs : List Int} (h : IsRow .i64 w a len cap zs) : ∃ l : List Int, l.length = len ∧ Ints w (.slice a len cap) l := by
  rcases h with ⟨rfl, rfl, rfl, rfl⟩ | ⟨x, rfl, hl, hm, hz, hcell, hwz⟩
  · exact ⟨[], rfl, none, 0, rfl, fun h => absurd h (by simp)⟩
  · have hlen : (zs.take len).length = len := by simp; omega
    refine ⟨zs.take len, hlen, some x, cap, by rw [hlen], fun h0 => ?_⟩
    rw [hlen] at h0
    obtain ⟨b, off, spot⟩ := x
    have hc := hcell 0 (by omega)
    have hspot : spot = none := by simpa [Addr.add] using World.cell?_spot hc
    subst hspot
    refine ⟨b, off, rfl, fun j hj => ?_⟩
    rw [hlen] at hj
    have := hcell j (by omega)
    rw [addr_add] at this
    rw [this, List.getD_eq_getElem?_getD, List.getD_eq_getElem?_getD, List.getElem?_take_of_lt hj]

/-- The first i numbers are of 1 to n, and unlike. -/
def partsP (l : List Int) (n : Int) (i : Nat) : Prop := ∀ j, j < i → (1 ≤ l.getD j 0 ∧ l.getD j 0 ≤ n) ∧ ∀ k, k < j → l.getD k 0 ≠ l.getD j 0
noncomputable def partsT (l : List Int) (n : Int) : Bool := @decide (l.length ≤ 30 ∧ partsP l n l.length) (Classical.propDecidable _)
theorem partsT_true {l : List Int} {n : Int} : partsT l n = true ↔ l.length ≤ 30 ∧ partsP l n l.length := by
  unfold partsT
  exact @decide_eq_true_iff _ (Classical.propDecidable _)
theorem partsT_false {l : List Int} {n : Int} (h : ¬ (l.length ≤ 30 ∧ partsP l n l.length)) : partsT l n = false := by
  unfold partsT
  exact @decide_eq_false _ (Classical.propDecidable _) h
theorem partsP_all {l : List Int} {n : Int} (h : partsP l n l.length) : (∀ x ∈ l, 1 ≤ x ∧ x ≤ n) ∧ l.Nodup := by
  constructor
  · intro x hx
    obtain ⟨j, hj, rfl⟩ := List.getElem_of_mem hx
    have := (h j hj).1
    rwa [List.getD_eq_getElem?_getD, List.getElem?_eq_getElem hj] at this
  · rw [List.nodup_iff_pairwise_ne, List.pairwise_iff_getElem]
    intro i j hi hj hij
    have := (h j hj).2 i hij
    rwa [List.getD_eq_getElem?_getD, List.getD_eq_getElem?_getD, List.getElem?_eq_getElem hi, List.getElem?_eq_getElem hj] at this
theorem parts_meet {n : Int} {a b : List Int} (h0 : quoS n ≠ 0) (ha : partsT a n = true) (hb : partsT b n = true) (la : a.length = quoS n) (lb : b.length = quoS n) : ∃ i k, i < a.length ∧ k < b.length ∧ a.getD i 0 = b.getD k 0 := by
  have ha := partsP_all (partsT_true.1 ha).2
  have hb := partsP_all (partsT_true.1 hb).2
  unfold quoS at h0 la lb
  by_cases h : 1 ≤ n ∧ n ≤ 21 ∧ n % 2 = 1
  · rw [if_pos h] at la lb
    obtain ⟨m, rfl⟩ : ∃ m : Nat, n = (m : Int) := ⟨n.toNat, by omega⟩
    obtain ⟨x, hxa, hxb⟩ := lists_meet (n := m) ha.2 hb.2 ha.1 hb.1 (by rw [la, lb]; omega)
    obtain ⟨i, hi, hia⟩ := List.getElem_of_mem hxa
    obtain ⟨k, hk, hkb⟩ := List.getElem_of_mem hxb
    refine ⟨i, k, hi, hk, ?_⟩
    rw [List.getD_eq_getElem?_getD, List.getD_eq_getElem?_getD, List.getElem?_eq_getElem hi, List.getElem?_eq_getElem hk, Option.getD_some, Option.getD_some, hia, hkb]
  · rw [if_neg h] at h0
    exact absurd rfl h0

end Go.Proofs.YtnancafpecfcjaaDoor

/-
  The document's answer for an attestation with a signature: tithingref09.with.
-/
namespace Go.Proofs.YtnancafpecfcjaaDoor
set_option maxRecDepth 20000
open Go.RowKit
attribute [local go_sem ↓] exec_load_att exec_alloc_att exec_store_att exec_load_hash exec_build_hash

set_option maxHeartbeats 800000 in
theorem refWith9_any (a : AtM) (s : SgM) (w : World) (ha : a.Ok) (hs : s.Ok) :
    Calls Tryd.prog 35 #[.agg (atc a), .agg (sgc s)] w fun e w' => e = .returned (.agg (atc (withC a s))) ∧ Below w.heap.size w w' := by
  obtain ⟨C, HC⟩ : ∃ C : Array Value, Hid (atc a = C) := ⟨_, hid rfl⟩
  obtain ⟨G, HG⟩ : ∃ C : Array Value, Hid (sgc s = C) := ⟨_, hid rfl⟩
  obtain ⟨D, HD⟩ : ∃ C : Array Value, Hid (atc (withC a s) = C) := ⟨_, hid rfl⟩
  obtain ⟨Z, HZ⟩ : ∃ C : Array Value, Hid (atc atZ = C) := ⟨_, hid rfl⟩
  have hal : ∀ W, allocAtt W = .ok (.value (.pointer (some ⟨W.heap.size, 0, none⟩))) (W.alloc (.cells Z 27)) := fun W => by rw [← HZ.out]; exact allocAtt_eq W
  have HZS : Hid (Z.size = 101) := hid (by rw [← HZ.out]; exact atc_size atZ_ok)
  have HDS : Hid (D.size = 101 ∧ D.all (·.oneCell') = true) := hid (by rw [← HD.out]; exact ⟨atc_size (withC_ok ha hs), atc_one _⟩)
  have hb0 : Below w.heap.size w (((w.alloc (.cells C 27)).alloc (.cells G 63)).alloc (.cells Z 27)) := (((Below.refl _ _).alloc (Nat.le_refl _) _).alloc (by simp) _).alloc (by simp; omega) _
  have hr0 : (((w.alloc (.cells C 27)).alloc (.cells G 63)).alloc (.cells Z 27)).heap[w.heap.size]? = some (.cells C 27 (0, 0)) := (Below.heap_alloc _ _ _ (by simp; omega)).trans (heap1 w _ _)
  have hr1 : (((w.alloc (.cells C 27)).alloc (.cells G 63)).alloc (.cells Z 27)).heap[w.heap.size + 1]? = some (.cells G 63 (0, 0)) := (Below.heap_alloc _ _ _ (by simp)).trans (heap2 w _ _)
  have hr2 : (((w.alloc (.cells C 27)).alloc (.cells G 63)).alloc (.cells Z 27)).heap[w.heap.size + 1 + 1]? = some (.cells Z 27 (0, 0)) := by
    have := heap2 (w.alloc (.cells C 27)) (.cells G 63) (.cells Z 27)
    rwa [show (w.alloc (.cells C 27)).heap.size = w.heap.size + 1 from by simp] at this
  obtain ⟨T, HT⟩ : ∃ C : Array Value, Hid (hcells s.tg = C) := ⟨_, hid rfl⟩
  have HSG : Hid (∀ W : World, W.heap[w.heap.size + 1]? = some (.cells G 63 (0, 0)) → W.cell? ⟨w.heap.size + 1, 0, none⟩ = some (.int .i64 s.bo) ∧ loadH (.pointer (some ⟨w.heap.size + 1, 1, none⟩)) W = .ok (.value (.agg T)) W) := hid (fun W h => by
    rw [← HG.out] at h
    have hr : W.rangeAt (w.heap.size + 1) 0 (scl s) := fun j u hu => by
      rw [Nat.zero_add, cell_blk h j]
      unfold sgc
      rw [List.getElem?_toArray]
      exact hu
    obtain ⟨h1, h2⟩ := sg_range hr
    rw [← HT.out]
    exact ⟨h1, loadH_mid h2 hs⟩)
  have HLD : Hid (∀ W : World, BoxA W w.heap.size { { a with bo := s.bo } with tg := s.tg } → loadAtt (.pointer (some ⟨w.heap.size, 0, none⟩)) W = .ok (.value (.agg D)) W) := hid (fun W h => by
    rw [← HD.out]
    exact loadAtt_eq h (withC_ok ha hs))
  have HOA : Hid ({ a with bo := s.bo } : AtM).Ok := hid ⟨ha.ha, ha.pa, ha.tg⟩
  have HS := hid hs
  rw [HD.out, HC.out, HG.out]
  go_enter Tryd.func35, Tryd.ntmps35
  go_upto_region 1 with (fail)
  generalize (((w.alloc (.cells C 27)).alloc (.cells G 63)).alloc (.cells Z 27)) = w0 at *
  have hA : BoxA w0 w.heap.size a := by unfold BoxA; rw [HC.out]; exact hr0
  have c0 := hA.cells.1
  have f0 := hA.free 0
  have c1 := (HSG.out w0 hr1).1
  have hA1 : BoxA (w0.setCell ⟨w.heap.size, 0, none⟩ (.int .i64 s.bo)) w.heap.size { a with bo := s.bo } := by
    have := set_blk hA 0 (.int .i64 s.bo)
    rw [atc_by] at this
    exact this
  have hr11 := blk_other hr1 (.int .i64 s.bo) (i := 0) (b := w.heap.size) (by omega)
  have hr21 := blk_other hr2 (.int .i64 s.bo) (i := 0) (b := w.heap.size) (by omega)
  have hb1 : Below w.heap.size w (w0.setCell ⟨w.heap.size, 0, none⟩ (.int .i64 s.bo)) := hb0.setCell (by simp) _
  have l1 := (HSG.out _ hr11).2
  have HA1 := hid hA1
  have HR21 := hid hr21
  have HB1 := hid hb1
  clear hA hA1 hr0 hr1 hr2 hr11 hr21 hb0 hb1 hal ha hs
  go_wp2_with (refine wpList_store_tag (h := s.tg) (a := { a with bo := s.bo }) rfl _ _ rfl rfl (by rw [HT.out]; rfl) HA1.out HOA.out HS.out ?_; intro w2 hg2 hB2 hs2; have l2 := HLD.out w2 hB2; have hr2 := (hg2.block _ (lt_of_block HR21.out) (fun e => by injection e with e; omega)).trans HR21.out; have hst := storeAtt_eq hr2 HZS.out HDS.out.1 HDS.out.2; have HR3 := hid hr2; have HG2 := hid hg2; clear hg2 hs2 hr2)
  refine bodyPost_ret (results_cell_row rfl _ _ _ _ _ (0, 0) _ rfl (setAtt_same HR3.out) under_att rfl (by rw [size_att, HDS.out.1])) rfl ⟨rfl, ?_⟩
  exact setAtt_below (below_into HB1.out (Nat.le_refl _) HG2.out HB1.out.size) (by omega)

end Go.Proofs.YtnancafpecfcjaaDoor

/-
  The document's answer for whether a certificate's attestation has nobody: tithingref09.bare.
-/
namespace Go.Proofs.YtnancafpecfcjaaDoor
set_option maxRecDepth 20000
open Go.RowKit
attribute [local go_sem ↓] exec_load_att exec_alloc_att exec_store_att exec_load_hash exec_build_hash

set_option maxHeartbeats 800000 in
theorem refBare9_any (v : Value) (c : CtM) (w : World) (hv : CtV w v c) :
    Calls Tryd.prog 34 #[v] w fun e w' => e = .returned (.bool (bareC c)) ∧ Below w.heap.size w w' := by
  obtain ⟨s, rfl, ho, _⟩ := hv
  have hb0 : Below w.heap.size w (w.alloc (.cells (ctc c s) 30)) := (Below.refl _ _).alloc (Nat.le_refl _) _
  have hA := BoxC.new w c s
  obtain ⟨C, HC⟩ : ∃ C : Array Value, Hid (ctc c s = C) := ⟨_, hid rfl⟩
  obtain ⟨q, HQ⟩ : ∃ q : Bool, Hid (bareC c = q) := ⟨_, hid rfl⟩
  rw [HC.out] at hb0 hA ⊢
  rw [HQ.out]
  have heq := fun W => eq_hash c.att.tg z32 ho.att.tg rfl W
  obtain ⟨q1, HQ1⟩ : ∃ q : Bool, Hid (decide (c.att.tg = z32) = q) := ⟨_, hid rfl⟩
  obtain ⟨T, HT⟩ : ∃ C : Array Value, Hid (hcells c.att.tg = C) := ⟨_, hid rfl⟩
  obtain ⟨O, HO⟩ : ∃ C : Array Value, Hid (hcells z32 = C) := ⟨_, hid rfl⟩
  rw [HQ1.out, HT.out, HO.out] at heq
  have hbz : ∀ W, buildH W = .ok (.value (.agg O)) W := fun W => by rw [← HO.out, buildH_eq, fcells_nought]; rfl
  go_enter Tryd.func34, Tryd.ntmps34
  go_upto_region 1 with (fail)
  generalize (w.alloc (.cells C 30)) = w0 at *
  have k0 := hA.bo
  have l1 := loadH_mid (hA.tag ho.att) ho.att.tg
  rw [HT.out] at l1
  obtain ⟨n, HN⟩ : ∃ n : Int, Hid (c.att.bo = n) := ⟨_, hid rfl⟩
  have HB : Hid (q = (decide (n = 0) && q1)) := hid (by rw [← HQ.out, ← HQ1.out, ← HN.out]; rfl)
  rw [HN.out] at k0
  clear hA ho HC
  by_cases h0 : n = 0
  · subst h0
    obtain rfl : q = q1 := by rw [HB.out]; simp
    go_wp2_with fail
    go_ret
    exact ⟨rfl, hb0⟩
  · have h1 : (n == 0) = false := by simpa using h0
    obtain rfl : q = false := by rw [HB.out, decide_eq_false h0]; rfl
    clear h0
    go_wp2_with fail
    go_ret
    exact ⟨rfl, hb0⟩

end Go.Proofs.YtnancafpecfcjaaDoor
