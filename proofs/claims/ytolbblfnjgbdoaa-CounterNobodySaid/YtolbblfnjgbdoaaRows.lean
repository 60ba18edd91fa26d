/-
  No cell of these rows narrows 'for every input' (looked for: loops, veiled, ifaces, maps, wideKeys, modest, calm, conditions, laid).
  DERIVED. THE GIVEN ROWS OF THIS SEAT. 2 by the template 'for every input the law returns true; each argument reads behind the call as it read before'; 0 by the template 'total and deterministic' (their statements: YtolbblfnjgbdoaaTotals.lean).
  GIVEN WITH THE SEED: the statements are not yours to turn. If you find one false, say at which input.
  Laid BY PROGRAM, IN A SANDBOX (cutbox-rows.mjs): the forced cells as the released guide's own fill.sh prints them over the translation 931deef00521cf86… (all of the seat's roots in one cut). By AI agents, Wed Nov 11 2026. No macro, syntax, notation, axiom, sorry.
-/
import Derived.Test.YtolbblfnjgbdoaaChecked
import GoSem.Claim
import GoSem.ClaimJoined
import GoSem.ClaimMapViews
import Derived.JoinedTies
import Derived.KernelRfl
namespace Go.Proofs.Ytolbblfnjgbdoaa
/- THE CELL 'sum', in the pinned program and in every row, IS THE sha256 OF THE DUMP (.gsa) THAT YtolbblfnjgbdoaaProg.lean LOADS. Nothing in Lean hashes anything: it is a label: what it is worth is what the hold of that sum in a sandbox is worth. -/
noncomputable def Try.pinned : Pinned := { name := "ytolbblfnjgbdoaa", sum := "931deef00521cf86f1321715b0c83f46739673845799800efc632d475586b5a7", checked := Try.checked }
namespace Rows
def none {H : Type} : Left H := { results := [], args := [] }

/-- 'tithinglaw12.CounterUps': WHATEVER THE INPUT: true; the input reads as it did. -/
def counterUpsSpec : ChangeSpec := { name := "counterUps", fn := fun _ => fun
  | [d1, d2, d3] => { results := [.lit (.bool true)], args := [d1, d2, d3] }
  | _ => none }
def counterUpsRow : OpenClaim := { program := "ytolbblfnjgbdoaa", sum := "931deef00521cf86f1321715b0c83f46739673845799800efc632d475586b5a7", func := "tithing/tithinglaw12.CounterUps", spec := "counterUps", inPlace := ["sync/atomic.StoreInt64", "sync/atomic.AddInt64", "sync/atomic.LoadInt64"], apart := false }
def CounterUpsSaid : Prop := counterUpsRow.holds Try.pinned (OpenSpec.ofChange counterUpsSpec)

/-- ITS FALSE NEIGHBOUR: 'it returns false'. Refute it at one input. -/
def counterUpsWrong : ChangeSpec := { name := "counterUps", fn := fun _ => fun
  | [d1, d2, d3] => { results := [.lit (.bool false)], args := [d1, d2, d3] }
  | _ => none }
def CounterUpsWrongFalsely : Prop := counterUpsRow.holds Try.pinned (OpenSpec.ofChange counterUpsWrong)

/-- 'tithinglaw12.CounterNobody': WHATEVER THE INPUT: true; the input reads as it did. -/
def counterNobodySpec : ChangeSpec := { name := "counterNobody", fn := fun _ => fun
  | [d] => { results := [.lit (.bool true)], args := [d] }
  | _ => none }
def counterNobodyRow : OpenClaim := { program := "ytolbblfnjgbdoaa", sum := "931deef00521cf86f1321715b0c83f46739673845799800efc632d475586b5a7", func := "tithing/tithinglaw12.CounterNobody", spec := "counterNobody", inPlace := ["sync/atomic.AddInt64", "sync/atomic.LoadInt64", "sync/atomic.StoreInt64"], apart := false }
def CounterNobodySaid : Prop := counterNobodyRow.holds Try.pinned (OpenSpec.ofChange counterNobodySpec)

/-- ITS FALSE NEIGHBOUR: 'it returns false'. Refute it at one input. -/
def counterNobodyWrong : ChangeSpec := { name := "counterNobody", fn := fun _ => fun
  | [d] => { results := [.lit (.bool false)], args := [d] }
  | _ => none }
def CounterNobodyWrongFalsely : Prop := counterNobodyRow.holds Try.pinned (OpenSpec.ofChange counterNobodyWrong)

/- THE SECOND FORM. 'bulk': how many values and letters a reading holds, each counted each time it is reached (what is shared counts as often as it is met; a slice's spare places count too). A statement '..UptoSaid' is the law's where the arguments, and the package variables that the reading takes, are together of bulk at most 1048576: NARROWER than '..Said'. Prove '..Said' where nothing that the law and all that it calls make is longer than what came in: it says more and counts as full. Else prove '..UptoSaid'. A law counts once. -/
mutual
def uptoBulk {H : Type} : DataW H → Nat
  | .lit (.string bytes) => bytes.length + 1
  | .lit _ => 1
  | .nil => 1
  | .ptr d => uptoBulk d + 1
  | .slice elems spare => uptoBulkAll elems + uptoBulkAll spare + 1
  | .agg parts => uptoBulkAll parts + 1
  | .iface _ d => uptoBulk d + 1
  | .map entries => uptoBulkEntries entries + 1
  | .held _ => 1
def uptoBulkAll {H : Type} : List (DataW H) → Nat
  | [] => 0
  | d :: r => uptoBulk d + uptoBulkAll r
def uptoBulkEntries {H : Type} : List (Lit × DataW H) → Nat
  | [] => 0
  | x :: r => uptoBulkEntry x + uptoBulkEntries r
def uptoBulkEntry {H : Type} : Lit × DataW H → Nat
  | (.string bytes, d) => bytes.length + uptoBulk d + 1
  | (_, d) => uptoBulk d + 1
 end
def uptoSmall : (H : Type) → List (DataW H) → Bool := fun _ ds => decide (uptoBulkAll ds ≤ 1048576)
def OpenSpec.upto (s : _root_.Go.ChangeSpec) : _root_.Go.OpenSpec := { _root_.Go.OpenSpec.ofChange s with cond := some uptoSmall }

/-- 'tithinglaw12.CounterUps', WHERE WHAT IT READS IS OF BULK AT MOST 1048576: true; the input reads as it did. -/
def counterUpsUptoRow : OpenClaim := { program := "ytolbblfnjgbdoaa", sum := "931deef00521cf86f1321715b0c83f46739673845799800efc632d475586b5a7", func := "tithing/tithinglaw12.CounterUps", spec := "counterUps", inPlace := ["sync/atomic.StoreInt64", "sync/atomic.AddInt64", "sync/atomic.LoadInt64"], apart := false, narrowed := true }
def CounterUpsUptoSaid : Prop := counterUpsUptoRow.holds Try.pinned (OpenSpec.upto counterUpsSpec)

/-- 'tithinglaw12.CounterNobody', WHERE WHAT IT READS IS OF BULK AT MOST 1048576: true; the input reads as it did. -/
def counterNobodyUptoRow : OpenClaim := { program := "ytolbblfnjgbdoaa", sum := "931deef00521cf86f1321715b0c83f46739673845799800efc632d475586b5a7", func := "tithing/tithinglaw12.CounterNobody", spec := "counterNobody", inPlace := ["sync/atomic.AddInt64", "sync/atomic.LoadInt64", "sync/atomic.StoreInt64"], apart := false, narrowed := true }
def CounterNobodyUptoSaid : Prop := counterNobodyUptoRow.holds Try.pinned (OpenSpec.upto counterNobodySpec)

end Rows
end Go.Proofs.Ytolbblfnjgbdoaa
