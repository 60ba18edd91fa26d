/-
  What tithingref11.Get has in memory while it reads; what it tells. Printed with genmget.py.
-/
import Derived.Test.YtjemfmbmlmogcaaGreatBs30
namespace Go.Proofs.YtjemfmbmlmogcaaGreat
set_option maxRecDepth 20000
open Go.RowKit
structure GmSt (w0 w : World) (x0 x1 x2 : Value) (m : MgM) (s1 s2 s3 : Value) : Prop where
  bel : Below w0.heap.size w0 w
  b0 : BoxM w w0.heap.size mgZ (.slice none 0 0) (.slice none 0 0) (.slice none 0 0)
  b1 : BoxM w (w0.heap.size + 1) m s1 s2 s3
  b2 : w.heap[w0.heap.size + 1 + 1]? = some (.cells #[x0, x1, x2] 83 (0, 0))
section
variable {w0 w w' : World} {x0 x1 x2 s1 s2 s3 : Value} {m : MgM}
theorem GmSt.lt (h : GmSt w0 w x0 x1 x2 m s1 s2 s3) : w0.heap.size + 1 + 1 < w.heap.size := lt_of_block h.b2
theorem GmSt.below (h : GmSt w0 w x0 x1 x2 m s1 s2 s3) (hb : Below w.heap.size w w') : GmSt w0 w' x0 x1 x2 m s1 s2 s3 := by
  have hlt := h.lt
  exact ⟨h.bel.trans (hb.mono h.bel.size), (hb.block _ (by omega)).trans h.b0, (hb.block _ (by omega)).trans h.b1, (hb.block _ hlt).trans h.b2⟩
theorem GmSt.new (w : World) (x0 x1 x2 : Value) (Z : Array Value) (hZ : mgc mgZ (.slice none 0 0) (.slice none 0 0) (.slice none 0 0) = Z) :
    GmSt w (((w.alloc (.cells Z 38)).alloc (.cells Z 38)).alloc (.cells #[x0, x1, x2] 83)) x0 x1 x2 mgZ (.slice none 0 0) (.slice none 0 0) (.slice none 0 0) := by
  subst hZ
  refine ⟨(((Below.refl _ _).alloc (Nat.le_refl _) _).alloc (by simp) _).alloc (by simp; omega) _, ?_, ?_, ?_⟩
  · exact (Below.heap_alloc _ _ _ (by simp; omega)).trans (heap1 w _ _)
  · exact (Below.heap_alloc _ _ _ (by simp)).trans (heap2 w _ _)
  · have := heap_alloc_new ((w.alloc (.cells (mgc mgZ (.slice none 0 0) (.slice none 0 0) (.slice none 0 0)) 38)).alloc (.cells (mgc mgZ (.slice none 0 0) (.slice none 0 0) (.slice none 0 0)) 38)) (.cells #[x0, x1, x2] 83)
    rwa [show ((w.alloc (.cells (mgc mgZ (.slice none 0 0) (.slice none 0 0) (.slice none 0 0)) 38)).alloc (.cells (mgc mgZ (.slice none 0 0) (.slice none 0 0) (.slice none 0 0)) 38)).heap.size = w.heap.size + 1 + 1 from by simp] at this
theorem GmSt.put (h : GmSt w0 w x0 x1 x2 m s1 s2 s3) (y0 y1 y2 : Value) :
    GmSt w0 (((w.setCell ⟨w0.heap.size + 1 + 1, 0, none⟩ y0).setCell ⟨w0.heap.size + 1 + 1, 1, none⟩ y1).setCell ⟨w0.heap.size + 1 + 1, 2, none⟩ y2) y0 y1 y2 m s1 s2 s3 := by
  refine ⟨((h.bel.setCell (by simp only; omega) _).setCell (by simp only; omega) _).setCell (by simp only; omega) _, ?_, ?_, ?_⟩
  · exact blk_other (blk_other (blk_other h.b0 y0 (by omega)) y1 (by omega)) y2 (by omega)
  · exact blk_other (blk_other (blk_other h.b1 y0 (by omega)) y1 (by omega)) y2 (by omega)
  · exact set_blk (set_blk (set_blk h.b2 0 y0) 1 y1) 2 y2
theorem GmSt.cell (h : GmSt w0 w x0 x1 x2 m s1 s2 s3) {n : MgM} {v : Value} (i : Nat) (e : (mgc m s1 s2 s3).setIfInBounds i v = mgc n s1 s2 s3) : GmSt w0 (w.setCell ⟨w0.heap.size + 1, i, none⟩ v) x0 x1 x2 n s1 s2 s3 := by
  refine ⟨h.bel.setCell (by simp only; omega) _, blk_other h.b0 _ (by omega), ?_, blk_other h.b2 _ (by omega)⟩
  have := set_blk h.b1 i v
  rw [e] at this
  exact this
theorem GmSt.cells (h : GmSt w0 w x0 x1 x2 m s1 s2 s3) :
    (w.cell? ⟨w0.heap.size + 1 + 1, 0, none⟩ = some x0 ∧ w.cell? ⟨w0.heap.size + 1 + 1, 1, none⟩ = some x1 ∧ w.cell? ⟨w0.heap.size + 1 + 1, 2, none⟩ = some x2) ∧
    (w.cell? ⟨w0.heap.size + 1, 0, none⟩ = some (.int .i64 m.ki) ∧ w.cell? ⟨w0.heap.size + 1, 1, none⟩ = some (.int .i64 m.fr) ∧ w.cell? ⟨w0.heap.size + 1, 2, none⟩ = some (.int .i64 m.tu)) ∧
    (∀ i, w.frozen? ⟨w0.heap.size + 1, i, none⟩ = false) ∧ (∀ i, w.frozen? ⟨w0.heap.size + 1 + 1, i, none⟩ = false) :=
  ⟨⟨cell_blk h.b2 0, cell_blk h.b2 1, cell_blk h.b2 2⟩, h.b1.ints, h.b1.free, free_blk h.b2⟩
theorem GmSt.att (h : GmSt w0 w x0 x1 x2 m s1 s2 s3) {n : MgM} {t1 t2 t3 : Value} (hg : w.grownBy w' (some (w0.heap.size + 1))) (hb : BoxM w' (w0.heap.size + 1) n t1 t2 t3) : GmSt w0 w' x0 x1 x2 n t1 t2 t3 := by
  have hlt := h.lt
  exact ⟨h.bel.grown hg h.bel.size (fun k hk => by injection hk with hk; omega), (hg.block _ (by omega) (fun e => by injection e with e; omega)).trans h.b0, hb, (hg.block _ hlt (fun e => by injection e with e; omega)).trans h.b2⟩
end
structure OwnsM (B : Nat) (w : World) (m : MgM) (s1 s2 s3 : Value) : Prop where
  h1 : OwnE scl 33 111 B w s1 m.cc.sg
  h2 : OwnE icl 1 3 B w s2 m.xx.fr
  h3 : OwnT B w s3 m.kk.txs
theorem OwnsM.nil (B : Nat) (w : World) (m : MgM) (e1 : m.cc.sg = []) (e2 : m.xx.fr = []) (e3 : m.kk.txs = []) : OwnsM B w m (.slice none 0 0) (.slice none 0 0) (.slice none 0 0) :=
  ⟨by rw [e1]; exact OwnE.nil _ _, by rw [e2]; exact OwnE.nil _ _, by rw [e3]; exact OwnT.nil _ _⟩
theorem OwnsM.below {B : Nat} {w w' : World} {m : MgM} {s1 s2 s3 : Value} (h : OwnsM B w m s1 s2 s3) (hb : Below w.heap.size w w') : OwnsM B w' m s1 s2 s3 := ⟨h.h1.below hb, h.h2.below hb, h.h3.below hb⟩
theorem OwnsM.far {B g : Nat} {w w' : World} {m : MgM} {s1 s2 s3 : Value} (h : OwnsM B w m s1 s2 s3) (hg : w.grownBy w' (some g)) (hB : g < B) : OwnsM B w' m s1 s2 s3 := ⟨h.h1.far hg hB, h.h2.far hg hB, h.h3.far hg hB⟩
theorem OwnsM.els {B : Nat} {w : World} {m : MgM} {s1 s2 s3 : Value} (h : OwnsM B w m s1 s2 s3) (ho : m.Ok) : Els scl 33 w s1 m.cc.sg ∧ Els icl 1 w s2 m.xx.fr ∧ Txs w s3 m.kk.txs := ⟨h.h1.els eltSg ho.cc.sg, h.h2.els eltIc (fun _ _ => trivial), h.h3.txs⟩
def GotM (w : World) (l : List UInt8) (wx : World) : Prop := ∃ x0 x1 x2 m s1 s2 s3, GmSt w wx x0 x1 x2 m s1 s2 s3 ∧ m.Ok ∧ OwnsM (w.heap.size + 3) wx m s1 s2 s3 ∧ rawM l = m ∧ lightK m.kk ∧ m.tt.key.length ≤ 1000000 ∧ m.tt.val.length ≤ 1000000
def GmPost (l : List UInt8) (w : World) (e : Ending) (w' : World) : Prop := ∃ x, e = .returned (.tuple #[x, .bool (mgIs l)]) ∧ MgV w' x (mgOf l) ∧ Below w.heap.size w w'
theorem gmPost_no {l : List UInt8} {w w' : World} (h : mgIs l = false) (hb : Below w.heap.size w w') : GmPost l w (.returned (.tuple #[.agg (mgc mgZ (.slice none 0 0) (.slice none 0 0) (.slice none 0 0)), .bool false])) w' := by
  refine ⟨_, by rw [h], ?_, hb⟩
  unfold mgOf
  rw [h, if_neg (by decide)]
  exact ⟨_, _, _, rfl, mgZ_ok, Els.nil _, Els.nil _, Txs.nil _⟩
theorem gmPost_yes {l : List UInt8} {w w' : World} {m : MgM} {s1 s2 s3 : Value} (h : mgIs l = true) (e : rawM l = m) (ho : m.Ok) (h1 : Els scl 33 w' s1 m.cc.sg) (h2 : Els icl 1 w' s2 m.xx.fr) (h3 : Txs w' s3 m.kk.txs) (hb : Below w.heap.size w w') : GmPost l w (.returned (.tuple #[.agg (mgc m s1 s2 s3), .bool true])) w' := by
  refine ⟨_, by rw [h], ?_, hb⟩
  unfold mgOf
  rw [if_pos h, e]
  exact ⟨_, _, _, rfl, ho, h1, h2, h3⟩
theorem gotK_light (l : List UInt8) : lightK (gotK l) := (gotK_lim l).2
theorem txZ_short : txZ.key.length ≤ 1000000 ∧ txZ.val.length ≤ 1000000 := ⟨by decide, by decide⟩
theorem bkZ_light : lightK bkZ := fun t ht => absurd ht (by simp [bkZ])
end Go.Proofs.YtjemfmbmlmogcaaGreat
