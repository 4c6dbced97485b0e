/-
  No cell of these rows narrows 'for every input' (looked for: loops, veiled, ifaces, maps, wideKeys, modest, calm, conditions, laid).
  DERIVED. THE GIVEN ROWS OF THIS SEAT. 8 by the template 'for every input the law returns true; each argument reads behind the call as it read before'; 0 by the template 'total and deterministic' (their statements: YtbhhbhopogkmnaaTotals.lean).
  GIVEN WITH THE SEED: the statements are not yours to turn. If you find one false, say at which input.
  Laid BY PROGRAM, IN A SANDBOX (cutbox-rows.mjs): the forced cells as the released guide's own fill.sh prints them over the translation d230310c87a24b00… (all of the seat's roots in one cut). By AI agents, Wed Nov 11 2026. No macro, syntax, notation, axiom, sorry.
-/
import Derived.Test.YtbhhbhopogkmnaaChecked
import GoSem.Claim
import GoSem.ClaimJoined
import GoSem.ClaimMapViews
import Derived.JoinedTies
import Derived.KernelRfl
namespace Go.Proofs.Ytbhhbhopogkmnaa
/- THE CELL 'sum', in the pinned program and in every row, IS THE sha256 OF THE DUMP (.gsa) THAT YtbhhbhopogkmnaaProg.lean LOADS. Nothing in Lean hashes anything: it is a label: what it is worth is what the hold of that sum in a sandbox is worth. -/
noncomputable def Try.pinned : Pinned := { name := "ytbhhbhopogkmnaa", sum := "d230310c87a24b008f6ecb509af157d73d1df1cb48490c5061ec55ecfce3174c", checked := Try.checked }
namespace Rows
def none {H : Type} : Left H := { results := [], args := [] }

/-- 'laws.FnChangedNodes': WHATEVER THE INPUT: true; the input reads as it did. -/
def fnChangedNodesSpec : ChangeSpec := { name := "fnChangedNodes", fn := fun _ => fun
  | [d] => { results := [.lit (.bool true)], args := [d] }
  | _ => none }
def fnChangedNodesRow : OpenClaim := { program := "ytbhhbhopogkmnaa", sum := "d230310c87a24b008f6ecb509af157d73d1df1cb48490c5061ec55ecfce3174c", func := "loop.example/graphviews/laws.FnChangedNodes", spec := "fnChangedNodes", apart := false }
def FnChangedNodesSaid : Prop := fnChangedNodesRow.holds Try.pinned (OpenSpec.ofChange fnChangedNodesSpec)

/-- ITS FALSE NEIGHBOUR: 'it returns false'. Refute it at one input. -/
def fnChangedNodesWrong : ChangeSpec := { name := "fnChangedNodes", fn := fun _ => fun
  | [d] => { results := [.lit (.bool false)], args := [d] }
  | _ => none }
def FnChangedNodesWrongFalsely : Prop := fnChangedNodesRow.holds Try.pinned (OpenSpec.ofChange fnChangedNodesWrong)

/-- 'laws.FnApplyChanges': WHATEVER THE INPUT: true; the input reads as it did. -/
def fnApplyChangesSpec : ChangeSpec := { name := "fnApplyChanges", fn := fun _ => fun
  | [d] => { results := [.lit (.bool true)], args := [d] }
  | _ => none }
def fnApplyChangesRow : OpenClaim := { program := "ytbhhbhopogkmnaa", sum := "d230310c87a24b008f6ecb509af157d73d1df1cb48490c5061ec55ecfce3174c", func := "loop.example/graphviews/laws.FnApplyChanges", spec := "fnApplyChanges", unfollowed := true, recurses := true, apart := false }
def FnApplyChangesSaid : Prop := fnApplyChangesRow.holds Try.pinned (OpenSpec.ofChange fnApplyChangesSpec)

/-- ITS FALSE NEIGHBOUR: 'it returns false'. Refute it at one input. -/
def fnApplyChangesWrong : ChangeSpec := { name := "fnApplyChanges", fn := fun _ => fun
  | [d] => { results := [.lit (.bool false)], args := [d] }
  | _ => none }
def FnApplyChangesWrongFalsely : Prop := fnApplyChangesRow.holds Try.pinned (OpenSpec.ofChange fnApplyChangesWrong)

/-- 'laws.FnNetChanges': WHATEVER THE INPUT: true; the input reads as it did. -/
def fnNetChangesSpec : ChangeSpec := { name := "fnNetChanges", fn := fun _ => fun
  | [d] => { results := [.lit (.bool true)], args := [d] }
  | _ => none }
def fnNetChangesRow : OpenClaim := { program := "ytbhhbhopogkmnaa", sum := "d230310c87a24b008f6ecb509af157d73d1df1cb48490c5061ec55ecfce3174c", func := "loop.example/graphviews/laws.FnNetChanges", spec := "fnNetChanges", unfollowed := true, recurses := true, apart := false }
def FnNetChangesSaid : Prop := fnNetChangesRow.holds Try.pinned (OpenSpec.ofChange fnNetChangesSpec)

/-- ITS FALSE NEIGHBOUR: 'it returns false'. Refute it at one input. -/
def fnNetChangesWrong : ChangeSpec := { name := "fnNetChanges", fn := fun _ => fun
  | [d] => { results := [.lit (.bool false)], args := [d] }
  | _ => none }
def FnNetChangesWrongFalsely : Prop := fnNetChangesRow.holds Try.pinned (OpenSpec.ofChange fnNetChangesWrong)

/-- 'laws.FnUndoChanges': WHATEVER THE INPUT: true; the input reads as it did. -/
def fnUndoChangesSpec : ChangeSpec := { name := "fnUndoChanges", fn := fun _ => fun
  | [d] => { results := [.lit (.bool true)], args := [d] }
  | _ => none }
def fnUndoChangesRow : OpenClaim := { program := "ytbhhbhopogkmnaa", sum := "d230310c87a24b008f6ecb509af157d73d1df1cb48490c5061ec55ecfce3174c", func := "loop.example/graphviews/laws.FnUndoChanges", spec := "fnUndoChanges", unfollowed := true, recurses := true, apart := false }
def FnUndoChangesSaid : Prop := fnUndoChangesRow.holds Try.pinned (OpenSpec.ofChange fnUndoChangesSpec)

/-- ITS FALSE NEIGHBOUR: 'it returns false'. Refute it at one input. -/
def fnUndoChangesWrong : ChangeSpec := { name := "fnUndoChanges", fn := fun _ => fun
  | [d] => { results := [.lit (.bool false)], args := [d] }
  | _ => none }
def FnUndoChangesWrongFalsely : Prop := fnUndoChangesRow.holds Try.pinned (OpenSpec.ofChange fnUndoChangesWrong)

/-- 'laws.FnDiffGraphs': WHATEVER THE INPUT: true; the input reads as it did. -/
def fnDiffGraphsSpec : ChangeSpec := { name := "fnDiffGraphs", fn := fun _ => fun
  | [d] => { results := [.lit (.bool true)], args := [d] }
  | _ => none }
def fnDiffGraphsRow : OpenClaim := { program := "ytbhhbhopogkmnaa", sum := "d230310c87a24b008f6ecb509af157d73d1df1cb48490c5061ec55ecfce3174c", func := "loop.example/graphviews/laws.FnDiffGraphs", spec := "fnDiffGraphs", unfollowed := true, recurses := true, apart := false }
def FnDiffGraphsSaid : Prop := fnDiffGraphsRow.holds Try.pinned (OpenSpec.ofChange fnDiffGraphsSpec)

/-- ITS FALSE NEIGHBOUR: 'it returns false'. Refute it at one input. -/
def fnDiffGraphsWrong : ChangeSpec := { name := "fnDiffGraphs", fn := fun _ => fun
  | [d] => { results := [.lit (.bool false)], args := [d] }
  | _ => none }
def FnDiffGraphsWrongFalsely : Prop := fnDiffGraphsRow.holds Try.pinned (OpenSpec.ofChange fnDiffGraphsWrong)

/-- 'laws.FnNetTwice': WHATEVER THE INPUT: true; the input reads as it did. -/
def fnNetTwiceSpec : ChangeSpec := { name := "fnNetTwice", fn := fun _ => fun
  | [d] => { results := [.lit (.bool true)], args := [d] }
  | _ => none }
def fnNetTwiceRow : OpenClaim := { program := "ytbhhbhopogkmnaa", sum := "d230310c87a24b008f6ecb509af157d73d1df1cb48490c5061ec55ecfce3174c", func := "loop.example/graphviews/laws.FnNetTwice", spec := "fnNetTwice", unfollowed := true, recurses := true, apart := false }
def FnNetTwiceSaid : Prop := fnNetTwiceRow.holds Try.pinned (OpenSpec.ofChange fnNetTwiceSpec)

/-- ITS FALSE NEIGHBOUR: 'it returns false'. Refute it at one input. -/
def fnNetTwiceWrong : ChangeSpec := { name := "fnNetTwice", fn := fun _ => fun
  | [d] => { results := [.lit (.bool false)], args := [d] }
  | _ => none }
def FnNetTwiceWrongFalsely : Prop := fnNetTwiceRow.holds Try.pinned (OpenSpec.ofChange fnNetTwiceWrong)

/-- 'laws.FnDiffBack': WHATEVER THE INPUT: true; the input reads as it did. -/
def fnDiffBackSpec : ChangeSpec := { name := "fnDiffBack", fn := fun _ => fun
  | [d] => { results := [.lit (.bool true)], args := [d] }
  | _ => none }
def fnDiffBackRow : OpenClaim := { program := "ytbhhbhopogkmnaa", sum := "d230310c87a24b008f6ecb509af157d73d1df1cb48490c5061ec55ecfce3174c", func := "loop.example/graphviews/laws.FnDiffBack", spec := "fnDiffBack", apart := false }
def FnDiffBackSaid : Prop := fnDiffBackRow.holds Try.pinned (OpenSpec.ofChange fnDiffBackSpec)

/-- ITS FALSE NEIGHBOUR: 'it returns false'. Refute it at one input. -/
def fnDiffBackWrong : ChangeSpec := { name := "fnDiffBack", fn := fun _ => fun
  | [d] => { results := [.lit (.bool false)], args := [d] }
  | _ => none }
def FnDiffBackWrongFalsely : Prop := fnDiffBackRow.holds Try.pinned (OpenSpec.ofChange fnDiffBackWrong)

/-- 'laws.FnKeepView': WHATEVER THE INPUT: true; the input reads as it did. -/
def fnKeepViewSpec : ChangeSpec := { name := "fnKeepView", fn := fun _ => fun
  | [d] => { results := [.lit (.bool true)], args := [d] }
  | _ => none }
def fnKeepViewRow : OpenClaim := { program := "ytbhhbhopogkmnaa", sum := "d230310c87a24b008f6ecb509af157d73d1df1cb48490c5061ec55ecfce3174c", func := "loop.example/graphviews/laws.FnKeepView", spec := "fnKeepView", unfollowed := true, recurses := true, apart := false }
def FnKeepViewSaid : Prop := fnKeepViewRow.holds Try.pinned (OpenSpec.ofChange fnKeepViewSpec)

/-- ITS FALSE NEIGHBOUR: 'it returns false'. Refute it at one input. -/
def fnKeepViewWrong : ChangeSpec := { name := "fnKeepView", fn := fun _ => fun
  | [d] => { results := [.lit (.bool false)], args := [d] }
  | _ => none }
def FnKeepViewWrongFalsely : Prop := fnKeepViewRow.holds Try.pinned (OpenSpec.ofChange fnKeepViewWrong)

/- THE SECOND FORM. 'bulk': how many values and letters a reading holds, each counted each time it is reached (what is shared counts as often as it is met; a slice's spare places count too). A statement '..UptoSaid' is the law's where the arguments, and the package variables that the reading takes, are together of bulk at most 1048576: NARROWER than '..Said'. Prove '..Said' where nothing that the law and all that it calls make is longer than what came in: it says more and counts as full. Else prove '..UptoSaid'. A law counts once. -/
mutual
def uptoBulk {H : Type} : DataW H → Nat
  | .lit (.string bytes) => bytes.length + 1
  | .lit _ => 1
  | .nil => 1
  | .ptr d => uptoBulk d + 1
  | .slice elems spare => uptoBulkAll elems + uptoBulkAll spare + 1
  | .agg parts => uptoBulkAll parts + 1
  | .iface _ d => uptoBulk d + 1
  | .map entries => uptoBulkEntries entries + 1
  | .held _ => 1
def uptoBulkAll {H : Type} : List (DataW H) → Nat
  | [] => 0
  | d :: r => uptoBulk d + uptoBulkAll r
def uptoBulkEntries {H : Type} : List (Lit × DataW H) → Nat
  | [] => 0
  | x :: r => uptoBulkEntry x + uptoBulkEntries r
def uptoBulkEntry {H : Type} : Lit × DataW H → Nat
  | (.string bytes, d) => bytes.length + uptoBulk d + 1
  | (_, d) => uptoBulk d + 1
 end
def uptoSmall : (H : Type) → List (DataW H) → Bool := fun _ ds => decide (uptoBulkAll ds ≤ 1048576)
def OpenSpec.upto (s : _root_.Go.ChangeSpec) : _root_.Go.OpenSpec := { _root_.Go.OpenSpec.ofChange s with cond := some uptoSmall }

/-- 'laws.FnChangedNodes', WHERE WHAT IT READS IS OF BULK AT MOST 1048576: true; the input reads as it did. -/
def fnChangedNodesUptoRow : OpenClaim := { program := "ytbhhbhopogkmnaa", sum := "d230310c87a24b008f6ecb509af157d73d1df1cb48490c5061ec55ecfce3174c", func := "loop.example/graphviews/laws.FnChangedNodes", spec := "fnChangedNodes", apart := false, narrowed := true }
def FnChangedNodesUptoSaid : Prop := fnChangedNodesUptoRow.holds Try.pinned (OpenSpec.upto fnChangedNodesSpec)

/-- 'laws.FnApplyChanges', WHERE WHAT IT READS IS OF BULK AT MOST 1048576: true; the input reads as it did. -/
def fnApplyChangesUptoRow : OpenClaim := { program := "ytbhhbhopogkmnaa", sum := "d230310c87a24b008f6ecb509af157d73d1df1cb48490c5061ec55ecfce3174c", func := "loop.example/graphviews/laws.FnApplyChanges", spec := "fnApplyChanges", unfollowed := true, recurses := true, apart := false, narrowed := true }
def FnApplyChangesUptoSaid : Prop := fnApplyChangesUptoRow.holds Try.pinned (OpenSpec.upto fnApplyChangesSpec)

/-- 'laws.FnNetChanges', WHERE WHAT IT READS IS OF BULK AT MOST 1048576: true; the input reads as it did. -/
def fnNetChangesUptoRow : OpenClaim := { program := "ytbhhbhopogkmnaa", sum := "d230310c87a24b008f6ecb509af157d73d1df1cb48490c5061ec55ecfce3174c", func := "loop.example/graphviews/laws.FnNetChanges", spec := "fnNetChanges", unfollowed := true, recurses := true, apart := false, narrowed := true }
def FnNetChangesUptoSaid : Prop := fnNetChangesUptoRow.holds Try.pinned (OpenSpec.upto fnNetChangesSpec)

/-- 'laws.FnUndoChanges', WHERE WHAT IT READS IS OF BULK AT MOST 1048576: true; the input reads as it did. -/
def fnUndoChangesUptoRow : OpenClaim := { program := "ytbhhbhopogkmnaa", sum := "d230310c87a24b008f6ecb509af157d73d1df1cb48490c5061ec55ecfce3174c", func := "loop.example/graphviews/laws.FnUndoChanges", spec := "fnUndoChanges", unfollowed := true, recurses := true, apart := false, narrowed := true }
def FnUndoChangesUptoSaid : Prop := fnUndoChangesUptoRow.holds Try.pinned (OpenSpec.upto fnUndoChangesSpec)

/-- 'laws.FnDiffGraphs', WHERE WHAT IT READS IS OF BULK AT MOST 1048576: true; the input reads as it did. -/
def fnDiffGraphsUptoRow : OpenClaim := { program := "ytbhhbhopogkmnaa", sum := "d230310c87a24b008f6ecb509af157d73d1df1cb48490c5061ec55ecfce3174c", func := "loop.example/graphviews/laws.FnDiffGraphs", spec := "fnDiffGraphs", unfollowed := true, recurses := true, apart := false, narrowed := true }
def FnDiffGraphsUptoSaid : Prop := fnDiffGraphsUptoRow.holds Try.pinned (OpenSpec.upto fnDiffGraphsSpec)

/-- 'laws.FnNetTwice', WHERE WHAT IT READS IS OF BULK AT MOST 1048576: true; the input reads as it did. -/
def fnNetTwiceUptoRow : OpenClaim := { program := "ytbhhbhopogkmnaa", sum := "d230310c87a24b008f6ecb509af157d73d1df1cb48490c5061ec55ecfce3174c", func := "loop.example/graphviews/laws.FnNetTwice", spec := "fnNetTwice", unfollowed := true, recurses := true, apart := false, narrowed := true }
def FnNetTwiceUptoSaid : Prop := fnNetTwiceUptoRow.holds Try.pinned (OpenSpec.upto fnNetTwiceSpec)

/-- 'laws.FnDiffBack', WHERE WHAT IT READS IS OF BULK AT MOST 1048576: true; the input reads as it did. -/
def fnDiffBackUptoRow : OpenClaim := { program := "ytbhhbhopogkmnaa", sum := "d230310c87a24b008f6ecb509af157d73d1df1cb48490c5061ec55ecfce3174c", func := "loop.example/graphviews/laws.FnDiffBack", spec := "fnDiffBack", apart := false, narrowed := true }
def FnDiffBackUptoSaid : Prop := fnDiffBackUptoRow.holds Try.pinned (OpenSpec.upto fnDiffBackSpec)

/-- 'laws.FnKeepView', WHERE WHAT IT READS IS OF BULK AT MOST 1048576: true; the input reads as it did. -/
def fnKeepViewUptoRow : OpenClaim := { program := "ytbhhbhopogkmnaa", sum := "d230310c87a24b008f6ecb509af157d73d1df1cb48490c5061ec55ecfce3174c", func := "loop.example/graphviews/laws.FnKeepView", spec := "fnKeepView", unfollowed := true, recurses := true, apart := false, narrowed := true }
def FnKeepViewUptoSaid : Prop := fnKeepViewUptoRow.holds Try.pinned (OpenSpec.upto fnKeepViewSpec)

end Rows
end Go.Proofs.Ytbhhbhopogkmnaa
