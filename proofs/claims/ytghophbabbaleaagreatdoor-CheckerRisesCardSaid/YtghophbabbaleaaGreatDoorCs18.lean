/-
  MgPure MgWords CoCode VaWords VaAct: what each of them says stands at its head.
-/
import Derived.Test.YtghophbabbaleaaGreatDoorCs14
import Derived.Test.YtghophbabbaleaaGreatDoorCs17
import Derived.Test.YtghophbabbaleaaGreatDoorCs12
import Derived.Laws.LoneSync
namespace Go.Proofs.YtghophbabbaleaaGreatDoor
set_option maxRecDepth 20000
open Go.RowKit
def ctl (c : CtM) (s : Value) : List Value := atl c.att ++ [s]
def bkl (b : BkM) (s : Value) : List Value := bcells b.par ++ [.int .i64 b.vi, .int .i64 b.he, .int .i64 b.bo, s]
theorem ctl_len {c : CtM} (s : Value) (h : c.att.Ok) : (ctl c s).length = 102 := by simp [ctl, atl_length h]
theorem bkl_len {b : BkM} (s : Value) (h : b.par.length = 32) : (bkl b s).length = 36 := by simp [bkl, bcells, h]
theorem loadCt_in {w : World} {g o : Nat} {c : CtM} {s : Value} (hr : w.rangeAt g o (ctl c s)) (ho : c.att.Ok) : loadCt (.pointer (some ⟨g, o, none⟩)) w = .ok (.value (.agg (ctc c s))) w := by
  have := run_loadAt_mid (P := Tryz.prog) w g o 55 (ctl c s) _ hr under_ct rfl (by rw [size_ct, ctl_len s ho])
  unfold loadCt execOp
  simp only [Sem.run_bind, this, Result.andThen_ok, Sem.run_pure]
  rfl
theorem loadAx_in {w : World} {g o : Nat} {a : AcM} {s : Value} (hr : w.rangeAt g o (axl a s)) (ho : a.Ok) : loadAx (.pointer (some ⟨g, o, none⟩)) w = .ok (.value (.agg (axc a s))) w := by
  have := run_loadAt_mid (P := Tryz.prog) w g o 50 (axl a s) _ hr under_ax rfl (by rw [size_ax, axl_length s ho])
  unfold loadAx execOp
  simp only [Sem.run_bind, this, Result.andThen_ok, Sem.run_pure]
  rfl
theorem loadK_in {w : World} {g o : Nat} {b : BkM} {s : Value} (hr : w.rangeAt g o (bkl b s)) (ho : b.par.length = 32) : loadK (.pointer (some ⟨g, o, none⟩)) w = .ok (.value (.agg (bkc b s))) w := by
  have := run_loadAt_mid (P := Tryz.prog) w g o 47 (bkl b s) _ hr under_bk rfl (by rw [size_bk, bkl_len s ho])
  unfold loadK execOp
  simp only [Sem.run_bind, this, Result.andThen_ok, Sem.run_pure]
  rfl
end Go.Proofs.YtghophbabbaleaaGreatDoor
namespace Go.Proofs.YtghophbabbaleaaGreatDoor
set_option maxRecDepth 20000
open Go.RowKit
theorem coBlk_cell {w : World} {g : Nat} {cs : Array Value} {t : TypeId} (h : w.heap[g]? = some (.cells cs t (0, 0))) (i : Nat) : w.cell? ⟨g, i, none⟩ = cs[i]? := cell_of_row w g i cs t (0, 0) h
theorem coBlk_free {w : World} {g : Nat} {cs : Array Value} {t : TypeId} (h : w.heap[g]? = some (.cells cs t (0, 0))) (i : Nat) : w.frozen? ⟨g, i, none⟩ = false := by simp [World.frozen?, h]
theorem heapA_new (w : World) (o : Obj) : (w.alloc o).heap[w.heap.size]? = some o := by
  show (w.heap.push o)[w.heap.size]? = some o
  simp
theorem heapA_old (w : World) (o : Obj) {k : Nat} (h : k < w.heap.size) : (w.alloc o).heap[k]? = w.heap[k]? := by
  show (w.heap.push o)[k]? = _
  rw [Array.getElem?_push]
  simp [Nat.ne_of_lt h]
theorem heapA_set (w : World) {g : Nat} {cs : Array Value} {t : TypeId} (h : w.heap[g]? = some (.cells cs t (0, 0))) (i : Nat) (u : Value) : (w.setCell ⟨g, i, none⟩ u).heap[g]? = some (.cells (cs.setIfInBounds i u) t (0, 0)) := by
  simp [World.setCell, Array.getElem?_modify, h]
def cap (n : Int) : Int := if n < 1099511627776 then n else 1099511627776
end Go.Proofs.YtghophbabbaleaaGreatDoor
namespace Go.Proofs.YtghophbabbaleaaGreatDoor
set_option maxRecDepth 20000
open Go.RowKit
theorem blk_ne {w : World} {b a : Nat} {C D : Array Value} {T U : TypeId} (h : w.heap[b]? = some (.cells C T (0, 0))) (k : w.heap[a]? = some (.cells D U (0, 0))) (hT : T ≠ U) : b ≠ a := by
  rintro rfl
  have := h.symm.trans k
  injection this with e
  injection e with _ e _
  exact hT e
end Go.Proofs.YtghophbabbaleaaGreatDoor
namespace Go.Proofs.YtghophbabbaleaaGreatDoor
set_option maxRecDepth 20000
open Go.ChangeShapes Go.WideShapes Go.ChangeAt Go.RowKit Go.Deep
structure ActM where
  act : Int
  s : SeM
  n : Int
  m : Int
  k : Int
  bA : Option Addr
  bc : Nat
  bl : List UInt8
def ActM.b (a : ActM) : Value := .slice a.bA a.bl.length a.bc
def acl (a : ActM) : List Value := [.int .i64 a.act] ++ (sel a.s ++ [.int .i64 a.n, .int .i64 a.m, .int .i64 a.k, a.b])
def acc (a : ActM) : Array Value := (acl a).toArray
section
variable {w w' : World} {g : Nat} {a : ActM}
theorem loadSe_mid {g o : Nat} {s : SeM} (hr : w.rangeAt g o (sel s)) (hs : s.Ok) : loadSe (.pointer (some ⟨g, o, none⟩)) w = .ok (.value (.agg (sec s))) w := by
  have := run_loadAt_mid (P := Tryz.prog) w g o 40 (sel s) _ hr under_se rfl (by rw [size_se, sel_length hs])
  unfold loadSe execOp
  simp only [Sem.run_bind, this, Result.andThen_ok, Sem.run_pure]
  rfl
end
end Go.Proofs.YtghophbabbaleaaGreatDoor
