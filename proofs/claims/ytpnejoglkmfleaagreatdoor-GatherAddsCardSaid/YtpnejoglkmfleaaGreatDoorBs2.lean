/-
  Row Puts Str TxBack StrBytes TxRd TxArg BkBytes AtPure Fc Spec Bits Sched: what each of them says stands at its head.
-/
import Derived.ChangeOld
import Derived.OpenShut
import Derived.ProofKit
import Derived.ShutString
import Derived.Test.YtpnejoglkmfleaaGreatDoorBs1
import Derived.ChangeArms
import Derived.Deep.Slices
import Derived.Laws.IdiomStrings
import Derived.Deep.DeepCutAuto
import Derived.IntWalk
namespace Go.Proofs.YtpnejoglkmfleaaGreatDoor
set_option maxRecDepth 20000
open Go.ChangeShapes Go.WideShapes Go.ChangeAt Go.RowKit
theorem ownKnob_none : ownKnob Tryz.prog.godebug = none := by kernel_rfl
theorem laidOut : laidOutB Tryz.prog = true := by kernel_rfl
def IsRow (k : IntKind) (w : World) (a : Option Addr) (len cap : Nat) (zs : List Int) : Prop :=
  (a = none ∧ len = 0 ∧ cap = 0 ∧ zs = []) ∨
  ∃ x, a = some x ∧ len ≤ cap ∧ cap ≤ maxLen ∧ zs.length = cap ∧ (∀ i, i < zs.length → w.cell? (x.add i) = some (.int k (zs.getD i 0))) ∧ ∀ n ∈ zs, (Lit.int k n).wf = true
theorem row_byt {w : World} {a : Option Addr} {len cap : Nat} {zs : List Int} (h : IsRow .u8 w a len cap zs) : ∃ l : List UInt8, l.length = len ∧ Byt w (.slice a len cap) l := by
  rcases h with ⟨rfl, rfl, rfl, rfl⟩ | ⟨x, rfl, hl, hm, hz, hcell, hwz⟩
  · exact ⟨[], rfl, Byt.nil w⟩
  · have hlen : ((zs.take len).map fun n => UInt8.ofNat n.toNat).length = len := by simp; omega
    refine ⟨(zs.take len).map fun n => UInt8.ofNat n.toNat, hlen, some x, cap, by rw [hlen], by omega, hm, fun h0 => ?_⟩
    rw [hlen] at h0
    obtain ⟨b, off, spot⟩ := x
    have hc := hcell 0 (by omega)
    have hspot : spot = none := by simpa [Addr.add] using World.cell?_spot hc
    subst hspot
    refine ⟨b, off, rfl, ?_, fun j hj => ?_⟩
    · have := World.block_lt_of_cell? w _ hc
      rw [addr_add] at this
      exact this
    · rw [hlen] at hj
      have hjz : j < zs.length := by omega
      have := hcell j hjz
      rw [addr_add] at this
      rw [this]
      have hw := hwz zs[j] (List.getElem_mem hjz)
      have hr : 0 ≤ zs[j] ∧ zs[j] ≤ 255 := by simpa [Lit.wf, IntKind.min, IntKind.max, IntKind.signed, IntKind.bits] using hw
      have e : zs.getD j 0 = zs[j] := by simp [hjz]
      rw [e]
      unfold bcell
      congr 2
      simp only [List.getElem_map, List.getElem_take]
      rw [UInt8.toNat_ofNat']
      omega
end Go.Proofs.YtpnejoglkmfleaaGreatDoor
namespace Go.Proofs.YtpnejoglkmfleaaGreatDoor
set_option maxRecDepth 20000
open Go.ChangeShapes Go.WideShapes Go.ChangeAt Go.RowKit Go.Deep
section
variable {H : Type} {enc : TypeId × Value → H} {w : World} {base : Nat} {spare : Nat → Bool} {held : Bool} {fuel : Nat} {cs : List Value} {x : DataW H × List MemPlace}
theorem trod_byte (h : DataW.trod enc Tryz.prog w base spare held fuel 5 cs = some x) : ∃ c : UInt8, cs = [bcell c] := by
  obtain ⟨n, rfl, _, hw⟩ := DataW.trod_int Tryz.underlying5 h
  have hr : 0 ≤ n ∧ n ≤ 255 := by simpa [Lit.wf, IntKind.min, IntKind.max, IntKind.signed, IntKind.bits] using hw
  refine ⟨UInt8.ofNat n.toNat, ?_⟩
  unfold bcell
  rw [UInt8.toNat_ofNat']
  congr 2
  omega
theorem trod_hash (h : DataW.trod enc Tryz.prog w base spare held fuel 34 cs = some x) : ∃ l : List UInt8, l.length = 32 ∧ cs = bcells l := by
  have hc : Tryz.prog.cellsOf 5 = 1 := by kernel_rfl
  have hc2 : Tryz.prog.cellsOf 34 = 32 := by kernel_rfl
  obtain ⟨xs, m, _, _, hlen, hxl, hi⟩ := DataW.trod_array under_hash h
  rw [hc2] at hlen
  rw [hc] at hi
  have hb : ∀ i, i < 32 → ∃ c : UInt8, cs[i]? = some (bcell c) := by
    intro i hi32
    have h1 := hi i hi32
    rw [List.getElem?_eq_getElem (by omega)] at h1
    obtain ⟨c, hcs⟩ := trod_byte h1
    refine ⟨c, ?_⟩
    have h2 := congrArg (fun l => l[0]?) hcs
    simpa [List.getElem?_take, List.getElem?_drop] using h2
  refine ⟨cs.map fun v => match v with | .int _ n => UInt8.ofNat n.toNat | _ => 0, by simpa using hlen, ?_⟩
  apply List.ext_getElem?
  intro i
  by_cases h32 : i < 32
  · obtain ⟨c, hci⟩ := hb i h32
    have hlt : i < cs.length := by omega
    rw [hci]
    rw [List.getElem?_eq_getElem hlt] at hci
    injection hci with hci
    simp only [bcells, List.map_map, List.getElem?_map, List.getElem?_eq_getElem hlt, Option.map_some, hci, Function.comp]
    simp [bcell]
  · rw [List.getElem?_eq_none (by omega), List.getElem?_eq_none (by simp [bcells]; omega)]
end
end Go.Proofs.YtpnejoglkmfleaaGreatDoor
namespace Go.Proofs.YtpnejoglkmfleaaGreatDoor
set_option maxRecDepth 20000
open Go.RowKit
def sb (l : List UInt8) : ByteArray := ⟨l.toArray⟩
end Go.Proofs.YtpnejoglkmfleaaGreatDoor
namespace Go.Proofs.YtpnejoglkmfleaaGreatDoor
set_option maxRecDepth 20000
theorem nat_of {i : Int} (h : 0 ≤ i) : ∃ n : Nat, i = (n : Int) := ⟨i.toNat, by omega⟩
end Go.Proofs.YtpnejoglkmfleaaGreatDoor
namespace Go.Proofs.YtpnejoglkmfleaaGreatDoor
set_option maxRecDepth 20000
open Go.RowKit
theorem al_le (w : World) (o : Obj) : w.heap.size ≤ (w.alloc o).heap.size := by simp
theorem fresh0_own (w : World) : Own w.heap.size (w.alloc (.cells #[] 5)) (.slice (some ⟨w.heap.size, 0, none⟩) 0 0) [] := World.ownsRow_made w #[] 0 (Nat.le_refl _) (Nat.zero_le _) rfl
theorem fresh0_below {w w2 : World} (hg : (w.alloc (.cells #[] 5)).grownBy w2 (Value.slice (some ⟨w.heap.size, 0, none⟩) 0 0).ownBlock) : Below w.heap.size w w2 :=
  ((Below.refl _ _).alloc (Nat.le_refl _) _).grown hg (by simp) (fun k hk => (World.ownsRow.lt (fresh0_own w) k hk).1)
end Go.Proofs.YtpnejoglkmfleaaGreatDoor
namespace Go.Proofs.YtpnejoglkmfleaaGreatDoor
set_option maxRecDepth 20000
open Go.RowKit
theorem blk_other {w : World} {g b i : Nat} {o : Obj} (h : w.heap[g]? = some o) (u : Value) (hne : g ≠ b) : (w.setCell ⟨b, i, none⟩ u).heap[g]? = some o := by
  rw [Below.heap_setCell w _ u g (fun e => hne e)]
  exact h
end Go.Proofs.YtpnejoglkmfleaaGreatDoor
namespace Go.Proofs.YtpnejoglkmfleaaGreatDoor
set_option maxRecDepth 20000
open Go.ChangeShapes Go.WideShapes Go.ChangeAt Go.RowKit
theorem cell_of_part {cs : List Value} {o : Nat} {v : Value} (e : (cs.drop o).take 1 = [v]) : cs[o]? = some v := by
  have h1 := congrArg (fun l => l[0]?) e
  simp only [List.getElem?_take_of_lt (show 0 < 1 by omega), List.getElem?_drop, Nat.add_zero] at h1
  exact h1
end Go.Proofs.YtpnejoglkmfleaaGreatDoor
namespace Go.Proofs.YtpnejoglkmfleaaGreatDoor
set_option maxRecDepth 20000
open Go.RowKit
set_option maxHeartbeats 1600000 in
theorem refBytes7_any (h : List UInt8) (w : World) (h32 : h.length = 32) :
    Calls Tryz.prog 68 #[.agg (hcells h)] w fun e w' => ∃ x, e = .returned x ∧ Own w.heap.size w' x h ∧ Below w.heap.size w w' := by
  have hr0 := heap_alloc_new w (.cells (hcells h) 34)
  have hb0 : Below w.heap.size w (w.alloc (.cells (hcells h) 34)) := (Below.refl _ _).alloc (Nat.le_refl _) _
  obtain ⟨C, HC⟩ : ∃ C : Array Value, Hid (hcells h = C) := ⟨_, hid rfl⟩
  rw [HC.out] at hr0 hb0 ⊢
  go_enter Tryz.func68, Tryz.ntmps68
  go_upto_region 1 with (fail)
  generalize (w.alloc (.cells C 34)) = w0 at *
  have hl0 := lt_of_block hr0
  have HR0 := hid hr0
  have hfo := fresh0_own w0
  have hfb : Below w0.heap.size w0 (w0.alloc (.cells #[] 5)) := (Below.refl _ _).alloc (Nat.le_refl _) _
  have hs0 := hb0.size
  clear hr0
  go_wp2_with fail
  go_loopw [3, 4] (fun out si wr => ∃ i : Nat, i ≤ 32 ∧ si = .int .i64 i ∧ Own w0.heap.size wr out (h.take i) ∧ Below w0.heap.size w0 wr) (fun _ si _ => 32 - (intOf si).toNat)
  case atStart => exact ⟨0, by omega, rfl, by rw [List.take_zero]; exact hfo, hfb⟩
  case round =>
    obtain ⟨i, hi, rfl, hown, hB⟩ := hrel
    have hlen : (h.take i).length ≤ 32 := by simp only [List.length_take]; omega
    by_cases hlt2 : i < 32
    · have hih : i < h.length := by omega
      have hc : wr.cell? ⟨w.heap.size, i, none⟩ = some (bcell h[i]) := by
        have := cell_blk ((hB.block _ hl0).trans HR0.out) i
        rw [this, ← HC.out]
        exact hcells_get h i hih
      obtain ⟨x, hx0, hx1, HX⟩ : ∃ x : Int, 0 ≤ x ∧ x ≤ 255 ∧ Hid (x = (h[i].toNat : Int)) := ⟨_, (byte_lt h[i]).1, (byte_lt h[i]).2, rfl⟩
      unfold bcell at hc
      rw [← HX.out] at hc
      have hi32 : (i : Int) < 32 := by omega
      have hbs := hB.size
      clear hfo hfb
      go_wp2_with (at_builtin; refine wpList_append_byt rfl (.tmp 10) (.tmp 14) rfl rfl rfl (hown.alloc _) (byt_one _ _ h[i] HX.out) (by rw [List.length_singleton]; omega) (by simp; omega) ?_; intro v7 w7 hown7 hg7 _)
      have hnew : h.take i ++ [h[i]] = h.take (i + 1) := by rw [← List.take_succ_eq_append_getElem hih]
      rw [hnew] at hown7
      have hB7 : Below w0.heap.size w0 w7 := (hB.alloc hbs _).grown hg7 (by simp; omega) (fun q hq => (World.ownsRow.lt hown q hq).1)
      clear hnew hg7
      go_roundw
      case rel => exact ⟨i + 1, by omega, by go_num, hown7, hB7⟩
      case measure => simp [intOf]; omega
    · obtain rfl : i = 32 := by omega
      go_wp2
      go_ret
      rw [List.take_of_length_le (by omega)] at hown
      exact ⟨_, rfl, hown.more (by omega), hb0.trans (hB.mono (by omega))⟩
end Go.Proofs.YtpnejoglkmfleaaGreatDoor
namespace Go.Proofs.YtpnejoglkmfleaaGreatDoor
set_option maxRecDepth 20000
structure AtM where
  bo : Int
  ki : Int
  vi : Int
  ph : Int
  ha : List UInt8
  pv : Int
  pa : List UInt8
  tg : List UInt8
  deriving DecidableEq
def z32 : List UInt8 := List.replicate 32 0
def atZ : AtM := ⟨0, 0, 0, 0, z32, 0, z32, z32⟩
structure AtM.Ok (a : AtM) : Prop where
  ha : a.ha.length = 32
  pa : a.pa.length = 32
  tg : a.tg.length = 32
theorem atZ_ok : atZ.Ok := ⟨rfl, rfl, rfl⟩
def mayA (a : AtM) : Bool :=
  if a.bo < 1 ∨ 21 < a.bo ∨ a.ki < 1 ∨ 3 < a.ki ∨ a.ph ≠ a.ki ∨ a.vi < 1 ∨ 1099511627776 < a.vi ∨ a.pv < 0 then false else decide (a.pv < a.vi) || (decide (a.ki = 3) && decide (a.pv = a.vi))
theorem mayA_iff {a : AtM} (h : mayA a = true) : 1 ≤ a.bo ∧ a.bo ≤ 21 ∧ 1 ≤ a.ki ∧ a.ki ≤ 3 ∧ a.ph = a.ki ∧ 1 ≤ a.vi ∧ a.vi ≤ 1099511627776 ∧ 0 ≤ a.pv ∧ a.pv ≤ a.vi := by
  unfold mayA at h
  split at h
  · cases h
  · rename_i hn
    simp only [Bool.or_eq_true, Bool.and_eq_true, decide_eq_true_eq] at h
    omega
def taggedA (a : AtM) : List UInt8 := dg a.ki.toNat ++ (dg a.vi.toNat ++ (dg a.ph.toNat ++ (a.ha ++ (dg a.pv.toNat ++ a.pa))))
def alikeA (a b : AtM) : Bool := decide (a.ki = b.ki) && (decide (a.vi = b.vi) && (decide (a.ph = b.ph) && (decide (a.ha = b.ha) && (decide (a.pv = b.pv) && decide (a.pa = b.pa)))))
theorem alikeA_iff {a b : AtM} : alikeA a b = true ↔ a.ki = b.ki ∧ a.vi = b.vi ∧ a.ph = b.ph ∧ a.ha = b.ha ∧ a.pv = b.pv ∧ a.pa = b.pa := by
  unfold alikeA
  simp only [Bool.and_eq_true, decide_eq_true_eq]
theorem alikeA_comm (a b : AtM) : alikeA a b = alikeA b a := by
  rw [Bool.eq_iff_iff, alikeA_iff, alikeA_iff]
  constructor <;> (rintro ⟨h1, h2, h3, h4, h5, h6⟩; exact ⟨h1.symm, h2.symm, h3.symm, h4.symm, h5.symm, h6.symm⟩)
theorem alikeA_trans {a b c : AtM} (h : alikeA a b = true) (k : alikeA b c = true) : alikeA a c = true := by
  rw [alikeA_iff] at h k ⊢
  obtain ⟨h1, h2, h3, h4, h5, h6⟩ := h
  obtain ⟨k1, k2, k3, k4, k5, k6⟩ := k
  exact ⟨h1.trans k1, h2.trans k2, h3.trans k3, h4.trans k4, h5.trans k5, h6.trans k6⟩
theorem taggedA_len {a : AtM} (ho : a.Ok) (hm : mayA a = true) : (taggedA a).length ≤ 104 := by
  obtain ⟨h1, h2, h3, h4, h5, h6, h7, h8, h9⟩ := mayA_iff hm
  have e1 := dg_len10 (n := a.ki.toNat) (by omega)
  have e2 := dg_len10 (n := a.vi.toNat) (by omega)
  have e3 := dg_len10 (n := a.ph.toNat) (by omega)
  have e4 := dg_len10 (n := a.pv.toNat) (by omega)
  have := ho.ha
  have := ho.pa
  unfold taggedA
  simp only [List.length_append]
  omega
end Go.Proofs.YtpnejoglkmfleaaGreatDoor
namespace Go.Proofs.YtpnejoglkmfleaaGreatDoor
set_option maxRecDepth 20000
open Go.RowKit
def wv (x : UInt32) : Int := (x.toNat : Int)
def wc (x : UInt32) : Value := .int .u32 (wv x)
theorem wv_lt (x : UInt32) : 0 ≤ wv x ∧ wv x ≤ 4294967295 := by
  have := x.toNat_lt
  unfold wv
  omega
def fcells (n : Nat) (f : Nat → Value) : Array Value := Array.ofFn (fun i : Fin n => f i.val)
theorem fcells_size (n : Nat) (f : Nat → Value) : (fcells n f).size = n := by simp [fcells]
theorem fcells_get {n i : Nat} (f : Nat → Value) (h : i < n) : (fcells n f)[i]? = some (f i) := by simp [fcells, h]
theorem fcells_out {n i : Nat} (f : Nat → Value) (h : ¬ i < n) : (fcells n f)[i]? = none := by simp [fcells]; omega
theorem fcells_congr {n : Nat} {f g : Nat → Value} (h : ∀ i, i < n → f i = g i) : fcells n f = fcells n g := by
  apply Array.ext (by simp [fcells])
  intro i hi _
  simp [fcells] at hi ⊢
  exact h i hi
theorem fcells_set {n i : Nat} (f : Nat → Value) (v : Value) (h : i < n) : (fcells n f).setIfInBounds i v = fcells n (fun j => if j = i then v else f j) := by
  apply Array.ext_getElem?
  intro j
  by_cases hj : j < n
  · rw [fcells_get _ hj, Array.getElem?_setIfInBounds]
    by_cases e : i = j
    · subst e
      rw [if_pos rfl, if_pos (by rw [fcells_size]; exact h), if_pos rfl]
    · rw [if_neg e, fcells_get _ hj, if_neg (fun h => e h.symm)]
  · rw [fcells_out _ hj, Array.getElem?_setIfInBounds, if_neg (by omega), fcells_out _ hj]
theorem fcells_one {n : Nat} {f : Nat → Value} (h : ∀ i, i < n → (f i).oneCell' = true) : (fcells n f).all (·.oneCell') = true := by
  rw [Array.all_eq_true_iff_forall_mem]
  intro v hv
  simp only [fcells, Array.mem_ofFn] at hv
  obtain ⟨i, rfl⟩ := hv
  exact h i i.2
theorem fcells_list (n : Nat) (f : Nat → Value) (i : Nat) : (fcells n f).toList[i]? = if i < n then some (f i) else none := by
  rw [Array.getElem?_toList]
  split
  · exact fcells_get f ‹_›
  · exact fcells_out f ‹_›
def Blk (w : World) (g n : Nat) (f : Nat → Value) (t : TypeId) : Prop := w.heap[g]? = some (.cells (fcells n f) t (0, 0))
section
variable {w w' : World} {g n : Nat} {f f' : Nat → Value} {t : TypeId}
theorem Blk.lt (h : Blk w g n f t) : g < w.heap.size := lt_of_block h
theorem Blk.cell (h : Blk w g n f t) {i : Nat} (hi : i < n) : w.cell? ⟨g, i, none⟩ = some (f i) := (cell_of_row w g i _ t (0, 0) h).trans (fcells_get f hi)
theorem Blk.free (h : Blk w g n f t) (i : Nat) : w.frozen? ⟨g, i, none⟩ = false := frozen_of_row w g i _ t h
theorem Blk.congr (h : Blk w g n f t) (e : ∀ i, i < n → f i = f' i) : Blk w g n f' t := by
  unfold Blk at h ⊢
  rw [h, fcells_congr e]
theorem Blk.set (h : Blk w g n f t) {i : Nat} (hi : i < n) (v : Value) : Blk (w.setCell ⟨g, i, none⟩ v) g n (fun j => if j = i then v else f j) t := by
  unfold Blk
  rw [heap_setCell_same w g i _ t v h, fcells_set f v hi]
theorem Blk.apart (h : Blk w g n f t) {k : Nat} (i : Nat) (v : Value) (hk : g ≠ k) : Blk (w.setCell ⟨k, i, none⟩ v) g n f t := (heap_setCell_other w _ g v hk).trans h
theorem Blk.below {B : Nat} (h : Blk w g n f t) (hb : Below B w w') (hg : g < B) : Blk w' g n f t := (hb.block g hg).trans h
theorem Blk.keep (h : Blk w g n f t) (hb : Below w.heap.size w w') : Blk w' g n f t := h.below hb h.lt
theorem Blk.grown (h : Blk w g n f t) {row : Option Nat} (hg : w.grownBy w' row) (hr : row ≠ some g) : Blk w' g n f t := (hg.block g h.lt (fun e => hr e.symm)).trans h
theorem Blk.drew (h : Blk w g n f t) : Blk w.drew g n f t := h
theorem Blk.drewN (h : Blk w g n f t) (k : Nat) : Blk (w.drewN k) g n f t := h
theorem Blk.alloc (h : Blk w g n f t) (o : Obj) : Blk (w.alloc o) g n f t := (Below.heap_alloc w o g h.lt).trans h
theorem Blk.new (w : World) (n : Nat) (f : Nat → Value) (t : TypeId) : Blk (w.alloc (.cells (fcells n f) t)) w.heap.size n f t := heap_alloc_new w _
theorem Blk.range (h : Blk w g n f t) {o m : Nat} {f' : Nat → Value} (ho : o + m ≤ n) (e : ∀ j, j < m → f (o + j) = f' j) : w.rangeAt g o (fcells m f').toList := fun j v hv => by
  rw [fcells_list] at hv
  split at hv
  · rename_i hj
    injection hv with hv
    rw [h.cell (by omega), e j hj, hv]
  · cases hv
theorem Blk.there (h : Blk w g n f t) {o m : Nat} (ho : o + m ≤ n) : w.there g o m := fun j hj => ⟨by rw [h.cell (by omega)]; rfl, h.free _⟩
theorem setCells_blk : ∀ (vs : List Value) (o : Nat) (w : World) (f : Nat → Value), Blk w g n f t → o + vs.length ≤ n → Blk (w.setCells g o vs) g n (fun j => if o ≤ j ∧ j < o + vs.length then vs.getD (j - o) undef else f j) t
  | [], o, w, f, h, _ => h.congr fun i _ => by rw [if_neg (by simp)]
  | v :: r, o, w, f, h, ho => by
    have hl : (v :: r).length = r.length + 1 := rfl
    refine (setCells_blk r (o + 1) _ _ (h.set (i := o) (by omega) v) (by omega)).congr fun i _ => ?_
    by_cases h1 : o + 1 ≤ i ∧ i < o + 1 + r.length
    · rw [if_pos h1, if_pos (by omega), show i - o = (i - (o + 1)) + 1 from by omega]
      rfl
    · rw [if_neg h1]
      by_cases h2 : i = o
      · subst h2
        rw [if_pos rfl, if_pos (by omega), Nat.sub_self]
        rfl
      · rw [if_neg h2, if_neg (by omega)]
theorem setCells_size (g : Nat) : ∀ (vs : List Value) (o : Nat) (w : World), (w.setCells g o vs).heap.size = w.heap.size
  | [], _, _ => rfl
  | _ :: r, o, _ => (setCells_size g r (o + 1) _).trans (by simp [World.setCell])
theorem grown_setCell (w : World) (g i : Nat) (u : Value) : w.grownBy (w.setCell ⟨g, i, none⟩ u) (some g) :=
  ⟨rfl, rfl, rfl, by simp [World.setCell], fun k _ hk => heap_setCell_other w _ k u (fun e => hk (by rw [e]))⟩
theorem grown_setCells (g : Nat) : ∀ (vs : List Value) (o : Nat) (w : World), w.grownBy (w.setCells g o vs) (some g)
  | [], _, w => World.grownBy.refl w _
  | v :: r, o, w => (grown_setCell w g o v).trans (grown_setCells g r (o + 1) _)
theorem grown_below {w w' : World} (h : Below w.heap.size w w') (row : Option Nat) : w.grownBy w' row := ⟨h.os, h.tape, h.output, h.size, fun k hk _ => h.block k hk⟩
theorem grown_drewF {a b : World} {row : Option Nat} (h : a.grownBy b row) (n : Nat) : a.grownBy (b.drewN n) row := ⟨h.os, h.tape, h.output, h.size, h.block⟩
theorem below_set {B : Nat} {a w : World} (hb : Below B a w) {g : Nat} (hg : B ≤ g) (i : Nat) (u : Value) : Below B a (w.setCell ⟨g, i, none⟩ u) := hb.setCell hg u
theorem below_into {B : Nat} {a w w' : World} (hb : Below B a w) {g : Nat} (hg : B ≤ g) (h : w.grownBy w' (some g)) (hs : B ≤ w.heap.size) : Below B a w' := hb.grown h hs (fun k hk => by injection hk; omega)
end
structure ArrT (T E : TypeId) (n : Nat) (z : Value) : Prop where
  zero : (Tryz.prog.info? T).bind (·.zero) = some (.agg (fcells n fun _ => z))
  size : (Tryz.prog.info? T).map (·.size) = some n
  under : Tryz.prog.underlying T = some (.array n E)
  esize : (Tryz.prog.info? E).map (·.size) = some 1
  plain : Tryz.prog.plainKey E = true
  ecells : Tryz.prog.cellsOf E = 1
  zone : z.oneCell' = true
theorem arrS : ArrT 118 116 8 (wc 0) := ⟨by kernel_rfl, by kernel_rfl, by kernel_rfl, by kernel_rfl, by kernel_rfl, by kernel_rfl, rfl⟩
theorem arrW : ArrT 137 116 64 (wc 0) := ⟨by kernel_rfl, by kernel_rfl, by kernel_rfl, by kernel_rfl, by kernel_rfl, by kernel_rfl, rfl⟩
theorem arrB : ArrT 99 5 64 (bcell 0) := ⟨by kernel_rfl, by kernel_rfl, by kernel_rfl, by kernel_rfl, by kernel_rfl, by kernel_rfl, rfl⟩
theorem arrH : ArrT 34 5 32 (bcell 0) := ⟨by kernel_rfl, by kernel_rfl, by kernel_rfl, by kernel_rfl, by kernel_rfl, by kernel_rfl, rfl⟩
section
variable {T E : TypeId} {n : Nat} {z : Value}
theorem ArrT.run_zero (H : ArrT T E n z) (w : World) : (zeroValue T).run Tryz.prog w = .ok (.agg (fcells n fun _ => z)) w := by
  have h := H.zero
  cases hq : Tryz.prog.info? T with
  | none => rw [hq] at h; cases h
  | some i =>
    rw [hq] at h
    have hz : i.zero = some (.agg (fcells n fun _ => z)) := h
    simp [zeroValue, typeInfo, hq, hz]
theorem ArrT.run_esize (H : ArrT T E n z) (w : World) : (sizeOf E).run Tryz.prog w = .ok 1 w := by
  have h := H.esize
  cases hq : Tryz.prog.info? E with
  | none => rw [hq] at h; cases h
  | some i =>
    rw [hq] at h
    have hz : i.size = 1 := by simpa using h
    simp [sizeOf, typeInfo, hq, hz]
theorem wpList_alloc_arr (H : ArrT T E n z) {ops : Array Oper} {rest : List Oper} {o : Oper} {a : Act} {w : World} {Q : Exit → Act → World → Prop} (hgd : o.guard = none) (ho : o.op = .alloc T)
    (h : wpList Tryz.prog ops Q rest (a.put o.dst (.pointer (some ⟨w.heap.size, 0, none⟩))) (w.alloc (.cells (fcells n fun _ => z) T))) : wpList Tryz.prog ops Q (o :: rest) a w :=
  wpList_plain hgd fun _ hK => by
    unfold Oper.wp execOp
    simp only [ho, Sem.run_bind, Instr.alloc, H.run_zero, newVar, newRow, run_newObj_alloc, Sem.run_pure, Result.andThen_ok, Value.cells]
    exact hK _ _ h
theorem wpList_zero_arr (H : ArrT T E n z) {ops : Array Oper} {rest : List Oper} {o : Oper} {a : Act} {w : World} {Q : Exit → Act → World → Prop} (hgd : o.guard = none) (ho : o.op = .build T #[])
    (h : wpList Tryz.prog ops Q rest (a.put o.dst (.agg (fcells n fun _ => z))) w) : wpList Tryz.prog ops Q (o :: rest) a w :=
  wpList_plain hgd fun _ hK => by
    have e : (Instr.build T #[]).run Tryz.prog w = .ok (.agg (fcells n fun _ => z)) w := by
      simp [Instr.build, Sem.run_bind, H.run_zero, run_underlying H.under, H.run_esize, Instr.fill, Value.cells]
    unfold Oper.wp execOp
    simp only [ho, Sem.run_bind, List.map_toArray, List.map_nil, e, Sem.run_pure, Result.andThen_ok]
    exact hK _ _ h
theorem wpList_load_arr (H : ArrT T E n z) {ops : Array Oper} {rest : List Oper} {o : Oper} {a : Act} {w : World} {Q : Exit → Act → World → Prop} (hgd : o.guard = none) (x : Operand) (ho : o.op = .load T x)
    {g : Nat} {t : TypeId} {f : Nat → Value} (hx : a.eval x = .pointer (some ⟨g, 0, none⟩)) (hg : Blk w g n f t)
    (hh : wpList Tryz.prog ops Q rest (a.put o.dst (.agg (fcells n f))) w) : wpList Tryz.prog ops Q (o :: rest) a w :=
  wpList_load_row hgd _ x ho g hx t (fcells n f) (0, 0) _ hg H.under rfl (by rw [H.size, fcells_size]) hh
theorem wpList_store_arr (H : ArrT T E n z) {ops : Array Oper} {rest : List Oper} {o : Oper} {a : Act} {w : World} {Q : Exit → Act → World → Prop} (hgd : o.guard = none) (x y : Operand) (ho : o.op = .store T x y)
    {g : Nat} {t : TypeId} {f f' : Nat → Value} (hx : a.eval x = .pointer (some ⟨g, 0, none⟩)) (hy : a.eval y = .agg (fcells n f')) (hg : Blk w g n f t) (h1 : ∀ i, i < n → (f' i).oneCell' = true)
    (hh : ∀ w', w.grownBy w' (some g) → Blk w' g n f' t → w'.heap.size = w.heap.size → wpList Tryz.prog ops Q rest (a.put o.dst undef) w') : wpList Tryz.prog ops Q (o :: rest) a w :=
  wpList_store_row hgd _ x y ho g (fcells n f') hx hy t (fcells n f) hg (by rw [H.size, fcells_size]) (by rw [fcells_size, fcells_size]) (fcells_one h1)
    (hh _ ⟨rfl, rfl, rfl, by simp, fun k _ hk => setRow_other w g k _ (fun e => hk (by simp [e]))⟩ (setRow_heap w g _ _ t _ hg) (by simp))
theorem ArrT.load_mid (H : ArrT T E n z) {w : World} {g N o : Nat} {f f' : Nat → Value} {t : TypeId} (hg : Blk w g N f t) (ho : o + n ≤ N) (e : ∀ j, j < n → f (o + j) = f' j) :
    (Instr.loadAt T (.pointer (some ⟨g, o, none⟩))).run Tryz.prog w = .ok (.agg (fcells n f')) w := by
  have := run_loadAt_mid (P := Tryz.prog) w g o T (fcells n f').toList _ (hg.range ho e) H.under rfl (by rw [H.size, Array.length_toList, fcells_size])
  rw [Array.toArray_toList] at this
  exact this
theorem ArrT.store_mid (H : ArrT T E n z) {w : World} {g N o : Nat} {f f' : Nat → Value} {t : TypeId} (hg : Blk w g N f t) (ho : o + n ≤ N) (h1 : ∀ i, i < n → (f' i).oneCell' = true) :
    ∃ w', (Instr.storeAt T (.pointer (some ⟨g, o, none⟩)) (.agg (fcells n f'))).run Tryz.prog w = .ok () w' ∧ w.grownBy w' (some g) ∧ Blk w' g N (fun j => if o ≤ j ∧ j < o + n then f' (j - o) else f j) t ∧ w'.heap.size = w.heap.size := by
  refine ⟨_, run_storeAt_mid (P := Tryz.prog) w g o T (fcells n f') (hg.there (by rw [fcells_size]; exact ho)) (by rw [H.size, fcells_size]) (fcells_one h1), grown_setCells g _ _ _, ?_, setCells_size g _ _ _⟩
  have hl : (fcells n f').toList.length = n := by rw [Array.length_toList, fcells_size]
  refine (setCells_blk _ _ _ _ hg (by rw [hl]; exact ho)).congr fun i _ => ?_
  rw [hl]
  by_cases h : o ≤ i ∧ i < o + n
  · rw [if_pos h, if_pos h, List.getD_eq_getElem?_getD, fcells_list, if_pos (by omega)]
    rfl
  · rw [if_neg h, if_neg h]
theorem ArrT.run_index (H : ArrT T E n z) (f : Nat → Value) {i : Nat} (hi : i < n) (w : World) : (Instr.index T (.agg (fcells n f)) (.int .i64 (i : Int))).run Tryz.prog w = .ok (f i) w := by
  have h := run_part_plain (P := Tryz.prog) w H.plain (fcells_get f hi)
  simp [Instr.index, asIntOf, Sem.run_bind, run_underlying H.under, H.run_esize, h, hi]
end
theorem ArrT.result {T E : TypeId} {n : Nat} {z : Value} (H : ArrT T E n z) {fn : Func} {p : Tmp} (h : fn.results = #[.cell p T]) (tmps : Array Value) (w : World) {g : Nat} {t : TypeId} {f : Nat → Value}
    (hp : tmps.getD p undef = .pointer (some ⟨g, 0, none⟩)) (hg : Blk w g n f t) : (results fn tmps).run Tryz.prog w = .ok (.agg (fcells n f)) w :=
  results_cell_row h tmps w g t (fcells n f) (0, 0) _ hp hg H.under rfl (by rw [H.size, fcells_size])
end Go.Proofs.YtpnejoglkmfleaaGreatDoor
namespace Go.Proofs.YtpnejoglkmfleaaGreatDoor
set_option maxRecDepth 20000
def rr (x : UInt32) (n : Nat) : UInt32 := UInt32.ofNat (x.toNat / 2 ^ n + x.toNat % 2 ^ n * 2 ^ (32 - n))
def sr (x : UInt32) (n : Nat) : UInt32 := UInt32.ofNat (x.toNat / 2 ^ n)
def sm0 (x : UInt32) : UInt32 := rr x 7 ^^^ rr x 18 ^^^ sr x 3
def sm1 (x : UInt32) : UInt32 := rr x 17 ^^^ rr x 19 ^^^ sr x 10
def bg0 (x : UInt32) : UInt32 := rr x 2 ^^^ rr x 13 ^^^ rr x 22
def bg1 (x : UInt32) : UInt32 := rr x 6 ^^^ rr x 11 ^^^ rr x 25
def chc (x y z : UInt32) : UInt32 := (x &&& y) ||| (~~~x &&& z)
def maj (x y z : UInt32) : UInt32 := (x &&& y) ||| (x &&& z) ||| (y &&& z)
def kl : List UInt32 := [
  0x428a2f98, 0x71374491, 0xb5c0fbcf, 0xe9b5dba5, 0x3956c25b, 0x59f111f1, 0x923f82a4, 0xab1c5ed5,
  0xd807aa98, 0x12835b01, 0x243185be, 0x550c7dc3, 0x72be5d74, 0x80deb1fe, 0x9bdc06a7, 0xc19bf174,
  0xe49b69c1, 0xefbe4786, 0x0fc19dc6, 0x240ca1cc, 0x2de92c6f, 0x4a7484aa, 0x5cb0a9dc, 0x76f988da,
  0x983e5152, 0xa831c66d, 0xb00327c8, 0xbf597fc7, 0xc6e00bf3, 0xd5a79147, 0x06ca6351, 0x14292967,
  0x27b70a85, 0x2e1b2138, 0x4d2c6dfc, 0x53380d13, 0x650a7354, 0x766a0abb, 0x81c2c92e, 0x92722c85,
  0xa2bfe8a1, 0xa81a664b, 0xc24b8b70, 0xc76c51a3, 0xd192e819, 0xd6990624, 0xf40e3585, 0x106aa070,
  0x19a4c116, 0x1e376c08, 0x2748774c, 0x34b0bcb5, 0x391c0cb3, 0x4ed8aa4a, 0x5b9cca4f, 0x682e6ff3,
  0x748f82ee, 0x78a5636f, 0x84c87814, 0x8cc70208, 0x90befffa, 0xa4506ceb, 0xbef9a3f7, 0xc67178f2]
def kc (i : Nat) : UInt32 := kl.getD i 0
def four (a b c d : UInt8) : UInt32 := UInt32.ofNat (a.toNat * 16777216 + b.toNat * 65536 + c.toNat * 256 + d.toNat)
def wordB (b : Nat → UInt8) (i : Nat) : UInt32 := four (b (4 * i)) (b (4 * i + 1)) (b (4 * i + 2)) (b (4 * i + 3))
def sched (b : Nat → UInt8) : Nat → List UInt32
  | 0 => []
  | n + 1 => sched b n ++ [if n < 16 then wordB b n else sm1 ((sched b n).getD (n - 2) 0) + (sched b n).getD (n - 7) 0 + sm0 ((sched b n).getD (n - 15) 0) + (sched b n).getD (n - 16) 0]
def wd (b : Nat → UInt8) (i : Nat) : UInt32 := (sched b 64).getD i 0
theorem sched_length (b : Nat → UInt8) : ∀ n, (sched b n).length = n
  | 0 => rfl
  | n + 1 => by simp [sched, sched_length b n]
theorem sched_pre (b : Nat → UInt8) (i : Nat) : ∀ n, i < n → (sched b n).getD i 0 = (sched b (i + 1)).getD i 0
  | 0, h => absurd h (by omega)
  | n + 1, h => by
    by_cases e : i = n
    · subst e; rfl
    · have hi : i < n := by omega
      rw [← sched_pre b i n hi]
      have hl := sched_length b n
      simp only [sched, List.getD_eq_getElem?_getD]
      rw [List.getElem?_append_left (by omega)]
theorem sched_at (b : Nat → UInt8) {i n : Nat} (h : i < n) (h2 : n ≤ 64) : (sched b n).getD i 0 = wd b i := by
  unfold wd
  rw [sched_pre b i n h, sched_pre b i 64 (by omega)]
theorem wd_at (b : Nat → UInt8) {i : Nat} (h : i < 64) : wd b i = if i < 16 then wordB b i else sm1 ((sched b i).getD (i - 2) 0) + (sched b i).getD (i - 7) 0 + sm0 ((sched b i).getD (i - 15) 0) + (sched b i).getD (i - 16) 0 := by
  have e := sched_length b i
  unfold wd
  rw [sched_pre b i 64 h]
  simp only [sched, List.getD_eq_getElem?_getD]
  rw [List.getElem?_append_right (by omega), e, Nat.sub_self]
  rfl
theorem wd_low (b : Nat → UInt8) {i : Nat} (h : i < 16) : wd b i = wordB b i := by rw [wd_at b (by omega), if_pos h]
theorem wd_high (b : Nat → UInt8) {i : Nat} (h : 16 ≤ i) (h2 : i < 64) : wd b i = sm1 (wd b (i - 2)) + wd b (i - 7) + sm0 (wd b (i - 15)) + wd b (i - 16) := by
  rw [wd_at b h2, if_neg (by omega), sched_at b (by omega) (by omega), sched_at b (by omega) (by omega), sched_at b (by omega) (by omega), sched_at b (by omega) (by omega)]
theorem wd_congr {b b' : Nat → UInt8} (h : ∀ j, j < 64 → b j = b' j) : ∀ i, i < 64 → wd b i = wd b' i := by
  intro i
  induction i using Nat.strongRecOn with
  | _ i ih =>
    intro hi
    by_cases h16 : i < 16
    · rw [wd_low b h16, wd_low b' h16]
      unfold wordB
      rw [h _ (by omega), h _ (by omega), h _ (by omega), h _ (by omega)]
    · rw [wd_high b (by omega) hi, wd_high b' (by omega) hi, ih _ (by omega) (by omega), ih _ (by omega) (by omega), ih _ (by omega) (by omega), ih _ (by omega) (by omega)]
structure St where
  a : UInt32
  b : UInt32
  c : UInt32
  d : UInt32
  e : UInt32
  f : UInt32
  g : UInt32
  h : UInt32
def St.at_ (v : St) (i : Nat) : UInt32 := [v.a, v.b, v.c, v.d, v.e, v.f, v.g, v.h].getD i 0
def St.of (s : Nat → UInt32) : St := ⟨s 0, s 1, s 2, s 3, s 4, s 5, s 6, s 7⟩
def rnd (k w : UInt32) (v : St) : St :=
  ⟨v.h + bg1 v.e + chc v.e v.f v.g + k + w + (bg0 v.a + maj v.a v.b v.c), v.a, v.b, v.c, v.d + (v.h + bg1 v.e + chc v.e v.f v.g + k + w), v.e, v.f, v.g⟩
def rnds (w : Nat → UInt32) : Nat → St → St
  | 0, v => v
  | n + 1, v => rnd (kc n) (w n) (rnds w n v)
def turnS (s : Nat → UInt32) (b : Nat → UInt8) (i : Nat) : UInt32 := s i + (rnds (wd b) 64 (St.of s)).at_ i
theorem rnds_congr {w w' : Nat → UInt32} {v : St} : ∀ n, (∀ i, i < n → w i = w' i) → rnds w n v = rnds w' n v
  | 0, _ => rfl
  | n + 1, h => by
    unfold rnds
    rw [h n (by omega), rnds_congr n (fun i hi => h i (by omega))]
theorem turnS_congr {s s' : Nat → UInt32} {b b' : Nat → UInt8} (hs : ∀ i, i < 8 → s i = s' i) (hb : ∀ j, j < 64 → b j = b' j) (i : Nat) (hi : i < 8) : turnS s b i = turnS s' b' i := by
  have e : St.of s = St.of s' := by
    unfold St.of
    rw [hs 0 (by omega), hs 1 (by omega), hs 2 (by omega), hs 3 (by omega), hs 4 (by omega), hs 5 (by omega), hs 6 (by omega), hs 7 (by omega)]
  unfold turnS
  rw [e, hs i hi, rnds_congr 64 (wd_congr hb)]
def sl : List UInt32 := [0x6a09e667, 0xbb67ae85, 0x3c6ef372, 0xa54ff53a, 0x510e527f, 0x9b05688c, 0x1f83d9ab, 0x5be0cd19]
def start (i : Nat) : UInt32 := sl.getD i 0
def absb (l : List UInt8) : Nat → Nat → UInt32
  | 0 => start
  | n + 1 => turnS (absb l n) (fun j => l.getD (64 * n + j) 0)
theorem absb_congr {l m : List UInt8} : ∀ n, (∀ j, j < 64 * n → l.getD j 0 = m.getD j 0) → ∀ i, i < 8 → absb l n i = absb m n i
  | 0, _, _, _ => rfl
  | n + 1, h, i, hi => turnS_congr (absb_congr n fun j hj => h j (by omega)) (fun j hj => h _ (by omega)) i hi
theorem getD_left {l m : List UInt8} {j : Nat} (h : j < l.length) : (l ++ m).getD j 0 = l.getD j 0 := by
  simp only [List.getD_eq_getElem?_getD]
  rw [List.getElem?_append_left h]
theorem getD_right {l m : List UInt8} {j : Nat} : (l ++ m).getD (l.length + j) 0 = m.getD j 0 := by
  simp only [List.getD_eq_getElem?_getD]
  rw [List.getElem?_append_right (by omega), Nat.add_sub_cancel_left]
theorem absb_left {l m : List UInt8} {n : Nat} (h : 64 * n ≤ l.length) (i : Nat) (hi : i < 8) : absb (l ++ m) n i = absb l n i :=
  absb_congr n (fun _ hj => getD_left (by omega)) i hi
def be8 (m : Nat) : Nat → List UInt8
  | 0 => []
  | k + 1 => be8 m k ++ [UInt8.ofNat (m / 2 ^ (56 - 8 * k))]
theorem be8_length (m : Nat) : ∀ k, (be8 m k).length = k
  | 0 => rfl
  | k + 1 => by simp [be8, be8_length m k]
def noughts (n : Nat) : Nat := (64 - (n + 9) % 64) % 64
def tailS (n : Nat) : List UInt8 := 128 :: List.replicate (noughts n) 0 ++ be8 (n * 8) 8
def fillS (l : List UInt8) : List UInt8 := l ++ tailS l.length
theorem tailS_length (n : Nat) : (tailS n).length = noughts n + 9 := by
  simp [tailS, be8_length]
theorem noughts_le (n : Nat) : noughts n ≤ 63 := by unfold noughts; omega
theorem noughts_mod (n : Nat) : (n + (noughts n + 9)) % 64 = 0 := by unfold noughts; omega
theorem fillS_length (l : List UInt8) : (fillS l).length = l.length + (noughts l.length + 9) := by simp [fillS, tailS_length]
theorem fillS_mod (l : List UInt8) : (fillS l).length % 64 = 0 := by rw [fillS_length]; exact noughts_mod _
def byteOf (x : UInt32) (j : Nat) : UInt8 := UInt8.ofNat (x.toNat / 2 ^ (24 - 8 * j))
def sumS (l : List UInt8) (i : Nat) : UInt8 := byteOf (absb (fillS l) ((fillS l).length / 64) (i / 4)) (i % 4)
end Go.Proofs.YtpnejoglkmfleaaGreatDoor
namespace Go.Proofs.YtpnejoglkmfleaaGreatDoor
set_option maxRecDepth 20000
open Go.RowKit
theorem rot_and (n : Nat) (h0 : 1 ≤ n) (h1 : n ≤ 31) : bits BinOp.and IntKind.u64 (IntKind.u64.wrap (-(n : Int))) 31 = ((32 - n : Nat) : Int) := by
  have e : IntKind.u64.wrap (-(n : Int)) = ((18446744073709551616 - n : Nat) : Int) := by
    simp [IntKind.wrap, IntKind.signed, IntKind.bits]
    omega
  rw [e, show (31 : Int) = ((31 : Nat) : Int) from rfl, u64_and_nat _ _ (by omega) (by omega), nat_mask5]
  congr 1
  omega
theorem ret_u32 {a b : Int} (h : a = b) : Ending.returned (.int .u32 a) = Ending.returned (.int .u32 b) := by rw [h]
theorem wv_and (x y : UInt32) : bits BinOp.and IntKind.u32 (wv x) (wv y) = wv (x &&& y) := by
  have := x.toNat_lt
  have := y.toNat_lt
  unfold wv
  rw [u32_and_nat _ _ (by omega) (by omega), UInt32.toNat_and]
theorem wv_or (x y : UInt32) : bits BinOp.or IntKind.u32 (wv x) (wv y) = wv (x ||| y) := by
  have := x.toNat_lt
  have := y.toNat_lt
  unfold wv
  rw [u32_or_nat _ _ (by omega) (by omega), UInt32.toNat_or]
theorem wv_xor (x y : UInt32) : bits BinOp.xor IntKind.u32 (wv x) (wv y) = wv (x ^^^ y) := by
  have := x.toNat_lt
  have := y.toNat_lt
  unfold wv
  rw [u32_xor_nat _ _ (by omega) (by omega), UInt32.toNat_xor]
theorem wv_add (x y : UInt32) : (wv x + wv y) % 4294967296 = wv (x + y) := by
  unfold wv
  rw [UInt32.toNat_add]
  omega
theorem wv_not (x : UInt32) : 4294967295 - wv x = wv (~~~x) := by
  have := x.toNat_lt
  have e : UInt32.size = 4294967296 := rfl
  unfold wv
  rw [UInt32.toNat_not, e]
  omega
theorem wv_max (x : UInt32) : bits BinOp.xor IntKind.u32 IntKind.u32.max (wv x) = wv (~~~x) := by
  have e : IntKind.u32.max = wv 4294967295 := rfl
  rw [e, wv_xor]
  congr 1
theorem wv_of (n : Nat) (h : n < 4294967296) : wv (UInt32.ofNat n) = (n : Int) := by
  unfold wv
  rw [UInt32.toNat_ofNat', Nat.mod_eq_of_lt h]
theorem wv_sr (x : UInt32) (n : Nat) : wv x / 2 ^ n = wv (sr x n) := by
  have := x.toNat_lt
  have h := Nat.div_le_self x.toNat (2 ^ n)
  unfold sr
  rw [wv_of _ (by omega)]
  unfold wv
  simp
theorem rr_lt (x : UInt32) (n : Nat) (h0 : 1 ≤ n) (h1 : n ≤ 31) : x.toNat / 2 ^ n + x.toNat % 2 ^ n * 2 ^ (32 - n) < 4294967296 ∧ x.toNat / 2 ^ n < 2 ^ (32 - n) := by
  have hx := x.toNat_lt
  have e : (2 : Nat) ^ n * 2 ^ (32 - n) = 4294967296 := by rw [← Nat.pow_add, show n + (32 - n) = 32 from by omega]
  have hq : x.toNat / 2 ^ n < 2 ^ (32 - n) := (Nat.div_lt_iff_lt_mul (Nat.pow_pos (by omega))).2 (by rw [Nat.mul_comm, e]; omega)
  have hr := Nat.mod_lt x.toNat (Nat.pow_pos (n := n) (show 0 < 2 by omega))
  refine ⟨?_, hq⟩
  generalize x.toNat / 2 ^ n = q at *
  generalize x.toNat % 2 ^ n = r at *
  generalize (2 : Nat) ^ n = A at *
  generalize (2 : Nat) ^ (32 - n) = B at *
  have : (r + 1) * B ≤ A * B := Nat.mul_le_mul_right _ hr
  rw [Nat.add_mul] at this
  omega
theorem rot_eq (x : UInt32) (n : Nat) (h0 : 1 ≤ n) (h1 : n ≤ 31) : bits BinOp.or IntKind.u32 (wv x * 2 ^ (32 - n) % 4294967296) (wv x / 2 ^ (32 - (32 - n))) = wv (rr x n) := by
  obtain ⟨hlt, hq⟩ := rr_lt x n h0 h1
  unfold rr
  rw [wv_of _ hlt, show 32 - (32 - n) = n from by omega]
  unfold wv
  have e : (2 : Nat) ^ n * 2 ^ (32 - n) = 4294967296 := by rw [← Nat.pow_add, show n + (32 - n) = 32 from by omega]
  have hm : x.toNat * 2 ^ (32 - n) % 4294967296 = x.toNat % 2 ^ n * 2 ^ (32 - n) := by
    rw [← e, Nat.mul_mod_mul_right]
  have e1 : (x.toNat : Int) * 2 ^ (32 - n) % 4294967296 = ((x.toNat % 2 ^ n * 2 ^ (32 - n) : Nat) : Int) := by
    rw [← hm]
    simp
  have e2 : (x.toNat : Int) / 2 ^ n = ((x.toNat / 2 ^ n : Nat) : Int) := by simp
  rw [e1, e2, u32_or_nat _ _ (by omega) (by omega), nat_join (32 - n) _ _ (Nat.mul_mod_left _ _) hq, Nat.add_comm]
set_option maxHeartbeats 800000 in
theorem rotl_any (x : UInt32) (n : Nat) (h0 : 1 ≤ n) (h1 : n ≤ 31) (w : World) : Calls Tryz.prog 105 #[wc x, .int .i64 (-(n : Int))] w fun e w' => e = .returned (wc (rr x n)) ∧ w = w' := by
  have HS := rot_and n h0 h1
  obtain ⟨b0, b1⟩ := wv_lt x
  unfold wc
  go_enter Tryz.func105, Tryz.ntmps105
  go_wp2
  go_ret
  exact ⟨ret_u32 (rot_eq x n h0 h1), rfl⟩
theorem right_any (x : UInt32) (n : Nat) (h0 : 1 ≤ n) (h1 : n ≤ 31) (w : World) : Calls Tryz.prog 104 #[wc x, .int .i64 (n : Int)] w fun e w' => e = .returned (wc (rr x n)) ∧ w = w' := by
  have C := rotl_any x n h0 h1 w
  unfold wc at C ⊢
  go_enter Tryz.func104, Tryz.ntmps104
  go_wp2_with fail
  refine C.mono ?_
  rintro e w' ⟨rfl, rfl⟩
  go_wp2_with fail
  go_ret
  exact ⟨rfl, rfl⟩
theorem sm0_any (x : UInt32) (w : World) : Calls Tryz.prog 103 #[wc x] w fun e w' => e = .returned (wc (sm0 x)) ∧ w = w' := by
  have C1 := right_any x 7 (by omega) (by omega) w
  have C2 := right_any x 18 (by omega) (by omega) w
  obtain ⟨b0, b1⟩ := wv_lt x
  unfold wc at C1 C2 ⊢
  go_enter Tryz.func103, Tryz.ntmps103
  go_wp2_with fail
  refine C1.mono ?_
  rintro e w' ⟨rfl, rfl⟩
  go_wp2_with fail
  refine C2.mono ?_
  rintro e w' ⟨rfl, rfl⟩
  go_wp2_with fail
  go_ret
  refine ⟨ret_u32 ?_, rfl⟩
  rw [wv_xor, show wv x / 8 = wv (sr x 3) from wv_sr x 3, wv_xor]
  rfl
theorem sm1_any (x : UInt32) (w : World) : Calls Tryz.prog 102 #[wc x] w fun e w' => e = .returned (wc (sm1 x)) ∧ w = w' := by
  have C1 := right_any x 17 (by omega) (by omega) w
  have C2 := right_any x 19 (by omega) (by omega) w
  obtain ⟨b0, b1⟩ := wv_lt x
  unfold wc at C1 C2 ⊢
  go_enter Tryz.func102, Tryz.ntmps102
  go_wp2_with fail
  refine C1.mono ?_
  rintro e w' ⟨rfl, rfl⟩
  go_wp2_with fail
  refine C2.mono ?_
  rintro e w' ⟨rfl, rfl⟩
  go_wp2_with fail
  go_ret
  refine ⟨ret_u32 ?_, rfl⟩
  rw [wv_xor, show wv x / 1024 = wv (sr x 10) from wv_sr x 10, wv_xor]
  rfl
theorem bg0_any (x : UInt32) (w : World) : Calls Tryz.prog 98 #[wc x] w fun e w' => e = .returned (wc (bg0 x)) ∧ w = w' := by
  have C1 := right_any x 2 (by omega) (by omega) w
  have C2 := right_any x 13 (by omega) (by omega) w
  have C3 := right_any x 22 (by omega) (by omega) w
  unfold wc at C1 C2 C3 ⊢
  go_enter Tryz.func98, Tryz.ntmps98
  go_wp2_with fail
  refine C1.mono ?_
  rintro e w' ⟨rfl, rfl⟩
  go_wp2_with fail
  refine C2.mono ?_
  rintro e w' ⟨rfl, rfl⟩
  go_wp2_with fail
  refine C3.mono ?_
  rintro e w' ⟨rfl, rfl⟩
  go_wp2_with fail
  go_ret
  refine ⟨ret_u32 ?_, rfl⟩
  rw [wv_xor, wv_xor]
  rfl
theorem bg1_any (x : UInt32) (w : World) : Calls Tryz.prog 96 #[wc x] w fun e w' => e = .returned (wc (bg1 x)) ∧ w = w' := by
  have C1 := right_any x 6 (by omega) (by omega) w
  have C2 := right_any x 11 (by omega) (by omega) w
  have C3 := right_any x 25 (by omega) (by omega) w
  unfold wc at C1 C2 C3 ⊢
  go_enter Tryz.func96, Tryz.ntmps96
  go_wp2_with fail
  refine C1.mono ?_
  rintro e w' ⟨rfl, rfl⟩
  go_wp2_with fail
  refine C2.mono ?_
  rintro e w' ⟨rfl, rfl⟩
  go_wp2_with fail
  refine C3.mono ?_
  rintro e w' ⟨rfl, rfl⟩
  go_wp2_with fail
  go_ret
  refine ⟨ret_u32 ?_, rfl⟩
  rw [wv_xor, wv_xor]
  rfl
theorem chc_any (x y z : UInt32) (w : World) : Calls Tryz.prog 97 #[wc x, wc y, wc z] w fun e w' => e = .returned (wc (chc x y z)) ∧ w = w' := by
  obtain ⟨b0, b1⟩ := wv_lt x
  unfold wc
  go_enter Tryz.func97, Tryz.ntmps97
  go_wp2
  go_ret
  refine ⟨ret_u32 ?_, rfl⟩
  rw [wv_max, wv_and, wv_and, wv_or]
  rfl
theorem maj_any (x y z : UInt32) (w : World) : Calls Tryz.prog 99 #[wc x, wc y, wc z] w fun e w' => e = .returned (wc (maj x y z)) ∧ w = w' := by
  unfold wc
  go_enter Tryz.func99, Tryz.ntmps99
  go_wp2
  go_ret
  refine ⟨ret_u32 ?_, rfl⟩
  rw [wv_and, wv_and, wv_and, wv_or, wv_or]
  rfl
end Go.Proofs.YtpnejoglkmfleaaGreatDoor
namespace Go.Proofs.YtpnejoglkmfleaaGreatDoor
set_option maxRecDepth 20000
open Go.RowKit
def part (W : Nat → UInt32) (i j : Nat) : Value := if j < i then wc (W j) else wc 0
theorem part_set (W : Nat → UInt32) (i j : Nat) : (if j = i then wc (W i) else part W i j) = part W (i + 1) j := by
  unfold part
  by_cases h : j = i
  · subst h
    rw [if_pos rfl, if_pos (by omega)]
  · rw [if_neg h]
    by_cases h2 : j < i
    · rw [if_pos h2, if_pos (by omega)]
    · rw [if_neg h2, if_neg (by omega)]
theorem u32_wrap (n : Nat) (h : n < 4294967296) : IntKind.u32.wrap (n : Int) = (n : Int) := by
  rw [IntKind.wrap_u32']
  omega
theorem four_or (a b c d : UInt8) : bits BinOp.or IntKind.u32 (bits BinOp.or IntKind.u32 (bits BinOp.or IntKind.u32 (IntKind.u32.wrap (IntKind.u32.wrap (a.toNat : Int) * 16777216)) (IntKind.u32.wrap (IntKind.u32.wrap (b.toNat : Int) * 65536))) (IntKind.u32.wrap (IntKind.u32.wrap (c.toNat : Int) * 256))) (IntKind.u32.wrap (d.toNat : Int)) = wv (four a b c d) := by
  have ha := a.toNat_lt
  have hb := b.toNat_lt
  have hc := c.toNat_lt
  have hd := d.toNat_lt
  unfold four
  generalize a.toNat = A at *
  generalize b.toNat = B at *
  generalize c.toNat = C at *
  generalize d.toNat = D at *
  have e1 : IntKind.u32.wrap (IntKind.u32.wrap (A : Int) * 16777216) = ((A * 16777216 : Nat) : Int) := by rw [u32_wrap A (by omega), show (A : Int) * 16777216 = ((A * 16777216 : Nat) : Int) by omega, u32_wrap _ (by omega)]
  have e2 : IntKind.u32.wrap (IntKind.u32.wrap (B : Int) * 65536) = ((B * 65536 : Nat) : Int) := by rw [u32_wrap B (by omega), show (B : Int) * 65536 = ((B * 65536 : Nat) : Int) by omega, u32_wrap _ (by omega)]
  have e3 : IntKind.u32.wrap (IntKind.u32.wrap (C : Int) * 256) = ((C * 256 : Nat) : Int) := by rw [u32_wrap C (by omega), show (C : Int) * 256 = ((C * 256 : Nat) : Int) by omega, u32_wrap _ (by omega)]
  rw [e1, e2, e3, u32_wrap D (by omega), wv_of _ (by omega)]
  rw [u32_or_nat _ _ (by omega) (by omega), nat_join 24 _ _ (by omega) (by omega), u32_or_nat _ _ (by omega) (by omega), nat_join 16 _ _ (by omega) (by omega), u32_or_nat _ _ (by omega) (by omega), nat_join 8 _ _ (by omega) (by omega)]
theorem wv_sum4 (a b c d : UInt32) : (wv a + wv b + wv c + wv d) % 4294967296 = wv (a + b + c + d) := by
  rw [← wv_add (a + b + c) d, ← wv_add (a + b) c, ← wv_add a b]
  omega
theorem sm1_still (x : UInt32) (w : World) : Calls Tryz.prog 102 #[.int .u32 (wv x)] w fun e w' => e = .returned (.int .u32 (wv (sm1 x))) ∧ w' = w := (sm1_any x w).mono fun _ _ ⟨h, h2⟩ => ⟨h, h2.symm⟩
theorem sm0_still (x : UInt32) (w : World) : Calls Tryz.prog 103 #[.int .u32 (wv x)] w fun e w' => e = .returned (.int .u32 (wv (sm0 x))) ∧ w' = w := (sm0_any x w).mono fun _ _ ⟨h, h2⟩ => ⟨h, h2.symm⟩
set_option maxHeartbeats 1600000 in
theorem words_any (b : Nat → UInt8) (g : Nat) (t : TypeId) (w : World) (hg : Blk w g 64 (fun j => bcell (b j)) t) :
    Calls Tryz.prog 95 #[.pointer (some ⟨g, 0, none⟩)] w fun e w' => e = .returned (.agg (fcells 64 fun j => wc (wd b j))) ∧ Below w.heap.size w w' := by
  have hlt := hg.lt
  go_enter Tryz.func95, Tryz.ntmps95
  go_wp2_with (refine wpList_alloc_arr arrW rfl rfl ?_)
  have hG2 : Blk ((w.alloc (.cells (fcells 64 fun _ => wc 0) 137)).alloc (.cells (fcells 64 fun _ => wc 0) 137)) w.heap.size 64 (fun _ => wc 0) 137 := (Blk.new w 64 (fun _ => wc 0) 137).alloc _
  have hG3 : Blk ((w.alloc (.cells (fcells 64 fun _ => wc 0) 137)).alloc (.cells (fcells 64 fun _ => wc 0) 137)) (w.heap.size + 1) 64 (fun _ => wc 0) 137 := heap_alloc2_new w _ _
  have hbw0 : Below w.heap.size w ((w.alloc (.cells (fcells 64 fun _ => wc 0) 137)).alloc (.cells (fcells 64 fun _ => wc 0) 137)) := ((Below.refl _ _).alloc (Nat.le_refl _) _).alloc (by simp) _
  generalize ((w.alloc (.cells (fcells 64 fun _ => wc 0) 137)).alloc (.cells (fcells 64 fun _ => wc 0) 137)) = w0 at *
  go_wp2
  go_loopw [6] (fun si wr => ∃ i : Nat, i ≤ 16 ∧ si = .int .i64 i ∧ Below w.heap.size w wr ∧ Blk wr w.heap.size 64 (fun _ => wc 0) 137 ∧ Blk wr (w.heap.size + 1) 64 (part (wd b) i) 137) (fun si _ => 16 - (intOf si).toNat)
  case atStart => exact ⟨0, by omega, rfl, hbw0, hG2, hG3.congr fun i _ => by simp [part]⟩
  case round =>
    obtain ⟨i, hi, rfl, hbw, hA, hB⟩ := hrel
    by_cases hlt2 : i < 16
    · have hgr := hg.keep hbw
      obtain ⟨J, HJ⟩ : ∃ J : Nat, Hid (4 * i = J) := ⟨_, hid rfl⟩
      have hJ : J + 3 < 64 := by have := HJ.out; omega
      have c0 := hgr.cell (i := J) (by omega)
      have c1 := hgr.cell (i := J + 1) (by omega)
      have c2 := hgr.cell (i := J + 2) (by omega)
      have c3 := hgr.cell (i := J + 3) (by omega)
      have q0 : IntKind.i64.wrap (4 * (i : Int)) = (J : Int) := by rw [IntWalk.i64_in _ (by omega)]; have := HJ.out; omega
      have q1 : IntKind.i64.wrap ((J : Int) + 1) = (J : Int) + 1 := IntWalk.i64_in _ (by omega)
      have q2 : IntKind.i64.wrap ((J : Int) + 2) = (J : Int) + 2 := IntWalk.i64_in _ (by omega)
      have q3 : IntKind.i64.wrap ((J : Int) + 3) = (J : Int) + 3 := IntWalk.i64_in _ (by omega)
      have r1 : ((J : Int) + 1).toNat = J + 1 := by omega
      have r2 : ((J : Int) + 2).toNat = J + 2 := by omega
      have r3 : ((J : Int) + 3).toNat = J + 3 := by omega
      have s0 : (J : Int) < 64 := by omega
      have s1 : (J : Int) + 1 < 64 := by omega
      have s2 : (J : Int) + 2 < 64 := by omega
      have s3 : (J : Int) + 3 < 64 := by omega
      have u1 : 0 ≤ (J : Int) + 1 := by omega
      have u2 : 0 ≤ (J : Int) + 2 := by omega
      have u3 : 0 ≤ (J : Int) + 3 := by omega
      unfold bcell at c0 c1 c2 c3
      have k3 := hB.cell (i := i) (by omega)
      have f3 := hB.free i
      have hi16 : (i : Int) < 16 := by omega
      go_wp2_with fail
      go_still_tail 38, (by kernel_rfl)
      rw [four_or]
      change wpList _ _ _ _ _ wr.drew
      clear q0 q1 q2 q3 r1 r2 r3
      go_wp2_with fail
      go_roundw
      case rel =>
        refine ⟨i + 1, by omega, by go_num, (hbw.drew).setCell (by simp) _, hA.drew.apart _ _ (by simp), ((hB.drew).set (i := i) (by omega) _).congr fun j _ => ?_⟩
        rw [← part_set, wd_low b hlt2]
        unfold wordB
        rw [HJ.out]
        rfl
      case measure => simp [intOf]; omega
    · have HB16 : Hid (Blk wr (w.heap.size + 1) 64 (part (wd b) 16) 137) := by
        have e : i = 16 := by omega
        rw [← e]
        exact hid hB
      obtain ⟨m, rfl⟩ : ∃ m : Nat, i = m := ⟨i, rfl⟩
      go_wp2_with fail
      go_loopw [5] (fun si wr => ∃ i : Nat, 16 ≤ i ∧ i ≤ 64 ∧ si = .int .i64 i ∧ Below w.heap.size w wr ∧ Blk wr w.heap.size 64 (fun _ => wc 0) 137 ∧ Blk wr (w.heap.size + 1) 64 (part (wd b) i) 137) (fun si _ => 64 - (intOf si).toNat)
      case atStart => exact ⟨16, by omega, by omega, rfl, hbw, hA, HB16.out⟩
      case round =>
        clear hA hB hbw HB16
        obtain ⟨i, hi0, hi, rfl, hbw, hA, hB⟩ := hrel
        by_cases hlt2 : i < 64
        · obtain ⟨a2, H2⟩ : ∃ a2 : Nat, Hid (a2 + 2 = i) := ⟨i - 2, hid (by omega)⟩
          obtain ⟨a7, H7⟩ : ∃ a7 : Nat, Hid (a7 + 7 = i) := ⟨i - 7, hid (by omega)⟩
          obtain ⟨a15, H15⟩ : ∃ a15 : Nat, Hid (a15 + 15 = i) := ⟨i - 15, hid (by omega)⟩
          obtain ⟨a16, H16⟩ : ∃ a16 : Nat, Hid (a16 + 16 = i) := ⟨i - 16, hid (by omega)⟩
          have b2 : a2 < 64 := by have := H2.out; omega
          have b7 : a7 < 64 := by have := H7.out; omega
          have b15 : a15 < 64 := by have := H15.out; omega
          have b16 : a16 < 64 := by have := H16.out; omega
          have q2 : IntKind.i64.wrap ((i : Int) - 2) = (a2 : Int) := by rw [IntWalk.i64_in _ (by omega)]; have := H2.out; omega
          have q7 : IntKind.i64.wrap ((i : Int) - 7) = (a7 : Int) := by rw [IntWalk.i64_in _ (by omega)]; have := H7.out; omega
          have q15 : IntKind.i64.wrap ((i : Int) - 15) = (a15 : Int) := by rw [IntWalk.i64_in _ (by omega)]; have := H15.out; omega
          have q16 : IntKind.i64.wrap ((i : Int) - 16) = (a16 : Int) := by rw [IntWalk.i64_in _ (by omega)]; have := H16.out; omega
          have c2 := hB.cell (i := a2) (by omega)
          have c7 := hB.cell (i := a7) (by omega)
          have c15 := hB.cell (i := a15) (by omega)
          have c16 := hB.cell (i := a16) (by omega)
          have e2 : part (wd b) i a2 = .int .u32 (wv (wd b a2)) := if_pos (by have := H2.out; omega)
          have e7 : part (wd b) i a7 = .int .u32 (wv (wd b a7)) := if_pos (by have := H7.out; omega)
          have e15 : part (wd b) i a15 = .int .u32 (wv (wd b a15)) := if_pos (by have := H15.out; omega)
          have e16 : part (wd b) i a16 = .int .u32 (wv (wd b a16)) := if_pos (by have := H16.out; omega)
          rw [e2] at c2
          rw [e7] at c7
          rw [e15] at c15
          rw [e16] at c16
          have k3 := hB.cell (i := i) (by omega)
          have f3 := hB.free i
          have hi64 : (i : Int) < 64 := by omega
          have l2 : (a2 : Int) < 64 := by omega
          have l7 : (a7 : Int) < 64 := by omega
          have l15 : (a15 : Int) < 64 := by omega
          have l16 : (a16 : Int) < 64 := by omega
          clear e2 e7 e15 e16
          go_wp2_with fail
          refine wp_region_still_tail 22 (by kernel_rfl) (by kernel_rfl) ?_
          simp only [List.take_succ_cons, List.take_zero, List.drop_succ_cons, List.drop_zero]
          repeat still_step
          still_call (sm1_still _ _)
          repeat still_step
          still_call (sm0_still _ _)
          repeat still_step
          refine wpStill_nil ?_
          change wpList _ _ _ _ _ wr.drew
          clear q2 q7 q15 q16
          go_wp2_with fail
          go_roundw
          case rel =>
            refine ⟨i + 1, by omega, by omega, by go_num, (hbw.drew).setCell (by simp) _, hA.drew.apart _ _ (by simp), ((hB.drew).set (i := i) (by omega) _).congr fun j _ => ?_⟩
            rw [← part_set, wd_high b hi0 hlt2, show i - 2 = a2 from by have := H2.out; omega, show i - 7 = a7 from by have := H7.out; omega, show i - 15 = a15 from by have := H15.out; omega, show i - 16 = a16 from by have := H16.out; omega]
            rw [wv_sum4]
            rfl
          case measure => simp [intOf]; omega
        · obtain rfl : i = 64 := by omega
          have hB2 : Blk wr (w.heap.size + 1) 64 (fun j => wc (wd b j)) 137 := hB.congr fun j hj => if_pos hj
          go_wp2_with (first
            | (refine wpList_load_arr arrW rfl _ rfl rfl hB2 ?_)
            | (refine wpList_store_arr arrW rfl _ _ rfl rfl rfl hA (fun _ _ => rfl) ?_; intro w9 hg9 hA9 hs9))
          refine bodyPost_ret (arrW.result rfl _ _ rfl hA9) rfl ⟨rfl, ?_⟩
          exact below_into hbw (g := w.heap.size) (Nat.le_refl _) hg9 hbw.size
end Go.Proofs.YtpnejoglkmfleaaGreatDoor
