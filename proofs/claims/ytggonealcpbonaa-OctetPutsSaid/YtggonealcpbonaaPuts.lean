/-
  How arguments of the law's own struct type read: a number, a text, a hash; one by value, or a slice of them.
-/
import Derived.Test.YtggonealcpbonaaRow
import Derived.Test.YtggonealcpbonaaArr
import Derived.Test.YtggonealcpbonaaPlain
import Derived.Deep.Slices
import Derived.ChangeArms
namespace Go.Proofs.Ytggonealcpbonaa
open Go.ChangeShapes Go.WideShapes Go.ChangeAt Go.RowKit Go.Deep

section
variable {H : Type} {enc : TypeId × Value → H} {w : World} {base : Nat} {spare : Nat → Bool} {held : Bool} {fuel : Nat} {cs : List Value} {x : DataW H × List MemPlace}

theorem trod_bytes (h : DataW.trod enc Try.prog w base spare held fuel 22 cs = some x) : ∃ v l, cs = [v] ∧ Byt w v l := by
  rcases open_ints Try.underlying22 Try.underlying5 (by kernel_rfl) h with ⟨rfl, _⟩ | ⟨a, len, cap, zs, rfl, _, hl, hm, hz, _, hcell, hwz⟩
  · exact ⟨_, [], rfl, Byt.nil w⟩
  · have hlz : len ≤ zs.length := by rw [hz]; split <;> omega
    have hlen : ((zs.take len).map fun n => UInt8.ofNat n.toNat).length = len := by simp; omega
    refine ⟨_, (zs.take len).map fun n => UInt8.ofNat n.toNat, rfl, some a, cap, by rw [hlen], by omega, hm, fun h0 => ?_⟩
    rw [hlen] at h0
    obtain ⟨b, off, spot⟩ := a
    have hc := hcell 0 (by omega)
    have hspot : spot = none := by simpa [Addr.add] using World.cell?_spot hc
    subst hspot
    refine ⟨b, off, rfl, ?_, fun j hj => ?_⟩
    · have := World.block_lt_of_cell? w _ hc
      rw [addr_add] at this
      exact this
    · rw [hlen] at hj
      have hjz : j < zs.length := by omega
      have := hcell j hjz
      rw [addr_add] at this
      rw [this]
      have hw := hwz zs[j] (List.getElem_mem hjz)
      have hr : 0 ≤ zs[j] ∧ zs[j] ≤ 255 := by simpa [Lit.wf, IntKind.min, IntKind.max, IntKind.signed, IntKind.bits] using hw
      have e : zs.getD j 0 = zs[j] := by simp [hjz]
      rw [e]
      unfold bcell
      congr 2
      simp only [List.getElem_map, List.getElem_take]
      rw [UInt8.toNat_ofNat']
      omega

theorem trod_byte (h : DataW.trod enc Try.prog w base spare held fuel 5 cs = some x) : ∃ c : UInt8, cs = [bcell c] := by
  obtain ⟨n, rfl, _, hw⟩ := DataW.trod_int Try.underlying5 h
  have hr : 0 ≤ n ∧ n ≤ 255 := by simpa [Lit.wf, IntKind.min, IntKind.max, IntKind.signed, IntKind.bits] using hw
  refine ⟨UInt8.ofNat n.toNat, ?_⟩
  unfold bcell
  rw [UInt8.toNat_ofNat']
  congr 2
  omega

theorem trod_hash (h : DataW.trod enc Try.prog w base spare held fuel 25 cs = some x) : ∃ l : List UInt8, l.length = 32 ∧ cs = bcells l := by
  have hc : Try.prog.cellsOf 5 = 1 := by kernel_rfl
  have hc2 : Try.prog.cellsOf 25 = 32 := by kernel_rfl
  obtain ⟨xs, m, _, _, hlen, hxl, hi⟩ := DataW.trod_array under_hash h
  rw [hc2] at hlen
  rw [hc] at hi
  have hb : ∀ i, i < 32 → ∃ c : UInt8, cs[i]? = some (bcell c) := by
    intro i hi32
    have h1 := hi i hi32
    rw [List.getElem?_eq_getElem (by omega)] at h1
    obtain ⟨c, hcs⟩ := trod_byte h1
    refine ⟨c, ?_⟩
    have h2 := congrArg (fun l => l[0]?) hcs
    simpa [List.getElem?_take, List.getElem?_drop] using h2
  refine ⟨cs.map fun v => match v with | .int _ n => UInt8.ofNat n.toNat | _ => 0, by simpa using hlen, ?_⟩
  apply List.ext_getElem?
  intro i
  by_cases h32 : i < 32
  · obtain ⟨c, hci⟩ := hb i h32
    have hlt : i < cs.length := by omega
    rw [hci]
    rw [List.getElem?_eq_getElem hlt] at hci
    injection hci with hci
    simp only [bcells, List.map_map, List.getElem?_map, List.getElem?_eq_getElem hlt, Option.map_some, hci, Function.comp]
    simp [bcell]
  · rw [List.getElem?_eq_none (by omega), List.getElem?_eq_none (by simp [bcells]; omega)]

/-- What is known of a number, a text and a hash that came in together. -/
structure PutD where
  n : Nat
  v : Value
  t : List UInt8
  h : List UInt8
/-- The cells of one. -/
def PutD.cells (d : PutD) : List Value := .int .u64 (d.n : Int) :: d.v :: bcells d.h
/-- .. that can be read. -/
structure PutD.Ok (d : PutD) (w : World) : Prop where
  n : d.n < 18446744073709551616
  v : Byt w d.v d.t
  h : d.h.length = 32

theorem under_put : ∃ f0 f1 f2 : Field, Try.prog.underlying 27 = some (.struct #[f0, f1, f2]) ∧ (f0.type, f0.offset) = (23, 0) ∧ (f1.type, f1.offset) = (22, 1) ∧ (f2.type, f2.offset) = (25, 2) :=
  ⟨_, _, _, Try.underlying27, rfl, rfl, rfl⟩

theorem trod_put (h : DataW.trod enc Try.prog w base spare held fuel 27 cs = some x) : ∃ d : PutD, cs = d.cells ∧ d.Ok w := by
  obtain ⟨f0, f1, f2, hu, e0, e1, e2⟩ := under_put
  injection e0 with t0 o0
  injection e1 with t1 o1
  injection e2 with t2 o2
  obtain ⟨xs, m, _, _, hlen, hxl, hf⟩ := DataW.trod_struct hu h
  have hc : Try.prog.cellsOf 27 = 34 := by kernel_rfl
  have hc0 : Try.prog.cellsOf 23 = 1 := by kernel_rfl
  have hc1 : Try.prog.cellsOf 22 = 1 := by kernel_rfl
  have hc2 : Try.prog.cellsOf 25 = 32 := by kernel_rfl
  rw [hc] at hlen
  have hx : xs.length = 3 := hxl
  have g0 := hf 0 f0 rfl
  have g1 := hf 1 f1 rfl
  have g2 := hf 2 f2 rfl
  rw [t0, o0, hc0, List.getElem?_eq_getElem (by omega)] at g0
  rw [t1, o1, hc1, List.getElem?_eq_getElem (by omega)] at g1
  rw [t2, o2, hc2, List.getElem?_eq_getElem (by omega)] at g2
  obtain ⟨n, en, _, hw⟩ := DataW.trod_int Try.underlying23 g0
  obtain ⟨v, t, ev, hv⟩ := trod_bytes g1
  obtain ⟨hh, hl, eh⟩ := trod_hash g2
  have hr : 0 ≤ n ∧ n ≤ 18446744073709551615 := by simpa [Lit.wf, IntKind.min, IntKind.max, IntKind.signed, IntKind.bits] using hw
  refine ⟨⟨n.toNat, v, t, hh⟩, ?_, ⟨show n.toNat < 18446744073709551616 by omega, hv, hl⟩⟩
  unfold PutD.cells
  simp only
  rw [Int.toNat_of_nonneg hr.1]
  match cs, hlen with
  | a :: b :: r, hlen =>
    simp at en ev eh
    rw [List.take_of_length_le (by simp at hlen; omega)] at eh
    rw [en, ev, eh]

/-- A slice of such things that came in. -/
def Puts (w : World) (v : Value) (ps : List PutD) : Prop :=
  ∃ A c, v = .slice A ps.length c ∧ ps.length ≤ c ∧ c ≤ maxLen ∧
    (0 < ps.length → ∃ b off, A = some ⟨b, off, none⟩ ∧ b < w.heap.size ∧ ∀ i (h : i < ps.length), ps[i].Ok w ∧ w.rangeAt b (off + i * 34) ps[i].cells)

theorem trod_puts (h : DataW.trod enc Try.prog w base spare held fuel 54 cs = some x) : ∃ v ps, cs = [v] ∧ Puts w v ps := by
  have hc : Try.prog.cellsOf 27 = 34 := by kernel_rfl
  rcases open_slice Try.underlying54 h with ⟨rfl, _⟩ | ⟨a, len, cap, m, n, D, Pl, rfl, _, hl, hm, hmm, _, hi⟩
  · exact ⟨_, [], rfl, none, 0, rfl, Nat.le_refl _, Nat.zero_le _, fun h => absurd h (by simp)⟩
  · have hlm : len ≤ m := by rw [hmm]; split <;> omega
    rw [hc] at hi
    have hex : ∀ i, ∃ d : PutD, i < len → d.Ok w ∧ ∀ j u, d.cells[j]? = some u → w.cell? (a.add (i * 34 + j)) = some u := by
      intro i
      by_cases hil : i < len
      · obtain ⟨cs', hcs, ht⟩ := hi i (by omega)
        obtain ⟨d, rfl, hd⟩ := trod_put ht
        obtain ⟨_, hlen', hat⟩ := World.cells?_some hcs
        refine ⟨d, fun _ => ⟨hd, fun j u hu => ?_⟩⟩
        have hj : j < 34 := by
          have := (List.getElem?_eq_some_iff.1 hu).1
          omega
        rw [← Go.Deep.add_add, hat j hj, hu]
      · exact ⟨⟨0, .slice none 0 0, [], []⟩, fun h => absurd h hil⟩
    refine ⟨_, (List.range len).map fun i => (hex i).choose, rfl, some a, cap, by simp, by simpa using hl, hm, fun h0 => ?_⟩
    have h0' : 0 < len := by simpa using h0
    obtain ⟨b, off, spot⟩ := a
    have hsp := ((hex 0).choose_spec h0').2 0 _ rfl
    have hspot : spot = none := by simpa [Addr.add] using World.cell?_spot hsp
    subst hspot
    refine ⟨b, off, rfl, ?_, fun i hil => ?_⟩
    · have := World.block_lt_of_cell? w _ hsp
      rw [addr_add] at this
      exact this
    · have hil' : i < len := by simpa using hil
      simp only [List.getElem_map, List.getElem_range]
      refine ⟨((hex i).choose_spec hil').1, fun j u hu => ?_⟩
      have := ((hex i).choose_spec hil').2 j u hu
      rw [addr_add] at this
      rw [← this, Nat.add_assoc]
end

/-- The bytes of one. -/
def PutD.enc (d : PutD) : List UInt8 := dg d.n ++ (tx d.t ++ d.h)
/-- The bytes of several, one behind the other. -/
def encs (ps : List PutD) : List UInt8 := (ps.map PutD.enc).flatten
theorem encs_succ (ps : List PutD) (i : Nat) (h : i < ps.length) : encs (ps.take (i + 1)) = encs (ps.take i) ++ ps[i].enc := by
  unfold encs
  rw [List.take_succ_eq_append_getElem h, List.map_append, List.flatten_append]
  simp
theorem encs_drop (ps : List PutD) (i : Nat) (h : i < ps.length) : (encs ps).drop (encs (ps.take i)).length = ps[i].enc ++ encs (ps.drop (i + 1)) := by
  have e : encs ps = encs (ps.take i) ++ (ps[i].enc ++ encs (ps.drop (i + 1))) := by
    unfold encs
    have h1 : ps = ps.take i ++ (ps[i] :: ps.drop (i + 1)) := by rw [← List.drop_eq_getElem_cons h, List.take_append_drop]
    have h2 : (ps.map PutD.enc).flatten = ((ps.take i ++ (ps[i] :: ps.drop (i + 1))).map PutD.enc).flatten := by rw [← h1]
    rw [h2, List.map_append, List.flatten_append, List.map_cons, List.flatten_cons]
  rw [e, List.drop_left]
theorem enc_len {d : PutD} (hn : d.n < 18446744073709551616) (hh : d.h.length = 32) (ht : d.t.length ≤ 300) : d.enc.length ≤ 400 := by
  have h1 := dg_len10 hn
  have h2 := dg_len10 (n := d.t.length) (by omega)
  unfold PutD.enc
  simp only [List.length_append, tx_len]
  omega
theorem Puts.keep {w w' : World} {v : Value} {ps : List PutD} (h : Puts w v ps) (hb : Below w.heap.size w w') : Puts w' v ps := by
  obtain ⟨A, c, e, h1, h2, h3⟩ := h
  refine ⟨A, c, e, h1, h2, fun h0 => ?_⟩
  obtain ⟨b, off, ea, hlt, hc⟩ := h3 h0
  refine ⟨b, off, ea, Nat.lt_of_lt_of_le hlt hb.size, fun i hi => ?_⟩
  obtain ⟨ok, hr⟩ := hc i hi
  exact ⟨⟨ok.n, ok.v.below hb, ok.h⟩, fun j u hu => (hb.cell (p := ⟨b, off + i * 34 + j, none⟩) hlt).trans (hr j u hu)⟩
theorem PutD.at_ {d : PutD} {w : World} {b o : Nat} (h : w.rangeAt b o d.cells) : w.cell? ⟨b, o, none⟩ = some (.int .u64 (d.n : Int)) ∧ w.cell? ⟨b, o + 1, none⟩ = some d.v ∧ w.rangeAt b (o + 2) (bcells d.h) :=
  ⟨h 0 _ rfl, h 1 _ rfl, fun j u hu => by
    have := h (j + 2) u (by rw [← hu]; rfl)
    rw [← this]
    congr 2
    omega⟩
theorem range_below {w w' : World} {B b o : Nat} {l : List Value} (h : w.rangeAt b o l) (hb : Below B w w') (hlt : b < B) : w'.rangeAt b o l := fun j u hu => (hb.cell (p := ⟨b, o + j, none⟩) hlt).trans (h j u hu)
end Go.Proofs.Ytggonealcpbonaa
