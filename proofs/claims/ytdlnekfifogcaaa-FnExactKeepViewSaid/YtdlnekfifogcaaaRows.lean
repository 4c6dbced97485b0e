/-
  No cell of these rows narrows 'for every input' (looked for: loops, veiled, ifaces, maps, wideKeys, modest, calm, conditions, laid).
  DERIVED. THE GIVEN ROWS OF THIS SEAT. 7 by the template 'for every input the law returns true; each argument reads behind the call as it read before'; 0 by the template 'total and deterministic' (their statements: YtdlnekfifogcaaaTotals.lean).
  GIVEN WITH THE SEED: the statements are not yours to turn. If you find one false, say at which input.
  Laid BY PROGRAM, IN A SANDBOX (cutbox-rows.mjs): the forced cells as the released guide's own fill.sh prints them over the translation 4359ce6890d0836f… (all of the seat's roots in one cut). By AI agents, Wed Nov 11 2026. No macro, syntax, notation, axiom, sorry.
-/
import Derived.Test.YtdlnekfifogcaaaChecked
import GoSem.Claim
import GoSem.ClaimJoined
import GoSem.ClaimMapViews
import Derived.JoinedTies
import Derived.KernelRfl
namespace Go.Proofs.Ytdlnekfifogcaaa
/- THE CELL 'sum', in the pinned program and in every row, IS THE sha256 OF THE DUMP (.gsa) THAT YtdlnekfifogcaaaProg.lean LOADS. Nothing in Lean hashes anything: it is a label: what it is worth is what the hold of that sum in a sandbox is worth. -/
noncomputable def Try.pinned : Pinned := { name := "ytdlnekfifogcaaa", sum := "4359ce6890d0836fe113466b2b960899511a977bfb8c668eea5326a7b2af2880", checked := Try.checked }
namespace Rows
def none {H : Type} : Left H := { results := [], args := [] }

/-- 'laws.FnExactChangesValid': WHATEVER THE INPUT: true; the input reads as it did. -/
def fnExactChangesValidSpec : ChangeSpec := { name := "fnExactChangesValid", fn := fun _ => fun
  | [d1, d2] => { results := [.lit (.bool true)], args := [d1, d2] }
  | _ => none }
def fnExactChangesValidRow : OpenClaim := { program := "ytdlnekfifogcaaa", sum := "4359ce6890d0836fe113466b2b960899511a977bfb8c668eea5326a7b2af2880", func := "loop.example/graphviews/laws.FnExactChangesValid", spec := "fnExactChangesValid", unfollowed := true, recurses := true, apart := false }
def FnExactChangesValidSaid : Prop := fnExactChangesValidRow.holds Try.pinned (OpenSpec.ofChange fnExactChangesValidSpec)

/-- ITS FALSE NEIGHBOUR: 'it returns false'. Refute it at one input. -/
def fnExactChangesValidWrong : ChangeSpec := { name := "fnExactChangesValid", fn := fun _ => fun
  | [d1, d2] => { results := [.lit (.bool false)], args := [d1, d2] }
  | _ => none }
def FnExactChangesValidWrongFalsely : Prop := fnExactChangesValidRow.holds Try.pinned (OpenSpec.ofChange fnExactChangesValidWrong)

/-- 'laws.FnExactApplyChanges': WHATEVER THE INPUT: true; the input reads as it did. -/
def fnExactApplyChangesSpec : ChangeSpec := { name := "fnExactApplyChanges", fn := fun _ => fun
  | [d1, d2] => { results := [.lit (.bool true)], args := [d1, d2] }
  | _ => none }
def fnExactApplyChangesRow : OpenClaim := { program := "ytdlnekfifogcaaa", sum := "4359ce6890d0836fe113466b2b960899511a977bfb8c668eea5326a7b2af2880", func := "loop.example/graphviews/laws.FnExactApplyChanges", spec := "fnExactApplyChanges", unfollowed := true, recurses := true, apart := false }
def FnExactApplyChangesSaid : Prop := fnExactApplyChangesRow.holds Try.pinned (OpenSpec.ofChange fnExactApplyChangesSpec)

/-- ITS FALSE NEIGHBOUR: 'it returns false'. Refute it at one input. -/
def fnExactApplyChangesWrong : ChangeSpec := { name := "fnExactApplyChanges", fn := fun _ => fun
  | [d1, d2] => { results := [.lit (.bool false)], args := [d1, d2] }
  | _ => none }
def FnExactApplyChangesWrongFalsely : Prop := fnExactApplyChangesRow.holds Try.pinned (OpenSpec.ofChange fnExactApplyChangesWrong)

/-- 'laws.FnExactNetChanges': WHATEVER THE INPUT: true; the input reads as it did. -/
def fnExactNetChangesSpec : ChangeSpec := { name := "fnExactNetChanges", fn := fun _ => fun
  | [d1, d2] => { results := [.lit (.bool true)], args := [d1, d2] }
  | _ => none }
def fnExactNetChangesRow : OpenClaim := { program := "ytdlnekfifogcaaa", sum := "4359ce6890d0836fe113466b2b960899511a977bfb8c668eea5326a7b2af2880", func := "loop.example/graphviews/laws.FnExactNetChanges", spec := "fnExactNetChanges", unfollowed := true, recurses := true, apart := false }
def FnExactNetChangesSaid : Prop := fnExactNetChangesRow.holds Try.pinned (OpenSpec.ofChange fnExactNetChangesSpec)

/-- ITS FALSE NEIGHBOUR: 'it returns false'. Refute it at one input. -/
def fnExactNetChangesWrong : ChangeSpec := { name := "fnExactNetChanges", fn := fun _ => fun
  | [d1, d2] => { results := [.lit (.bool false)], args := [d1, d2] }
  | _ => none }
def FnExactNetChangesWrongFalsely : Prop := fnExactNetChangesRow.holds Try.pinned (OpenSpec.ofChange fnExactNetChangesWrong)

/-- 'laws.FnExactDiffGraphs': WHATEVER THE INPUT: true; the input reads as it did. -/
def fnExactDiffGraphsSpec : ChangeSpec := { name := "fnExactDiffGraphs", fn := fun _ => fun
  | [d1, d2] => { results := [.lit (.bool true)], args := [d1, d2] }
  | _ => none }
def fnExactDiffGraphsRow : OpenClaim := { program := "ytdlnekfifogcaaa", sum := "4359ce6890d0836fe113466b2b960899511a977bfb8c668eea5326a7b2af2880", func := "loop.example/graphviews/laws.FnExactDiffGraphs", spec := "fnExactDiffGraphs", apart := false }
def FnExactDiffGraphsSaid : Prop := fnExactDiffGraphsRow.holds Try.pinned (OpenSpec.ofChange fnExactDiffGraphsSpec)

/-- ITS FALSE NEIGHBOUR: 'it returns false'. Refute it at one input. -/
def fnExactDiffGraphsWrong : ChangeSpec := { name := "fnExactDiffGraphs", fn := fun _ => fun
  | [d1, d2] => { results := [.lit (.bool false)], args := [d1, d2] }
  | _ => none }
def FnExactDiffGraphsWrongFalsely : Prop := fnExactDiffGraphsRow.holds Try.pinned (OpenSpec.ofChange fnExactDiffGraphsWrong)

/-- 'laws.FnExactUndoChanges': WHATEVER THE INPUT: true; the input reads as it did. -/
def fnExactUndoChangesSpec : ChangeSpec := { name := "fnExactUndoChanges", fn := fun _ => fun
  | [d1, d2] => { results := [.lit (.bool true)], args := [d1, d2] }
  | _ => none }
def fnExactUndoChangesRow : OpenClaim := { program := "ytdlnekfifogcaaa", sum := "4359ce6890d0836fe113466b2b960899511a977bfb8c668eea5326a7b2af2880", func := "loop.example/graphviews/laws.FnExactUndoChanges", spec := "fnExactUndoChanges", unfollowed := true, recurses := true, apart := false }
def FnExactUndoChangesSaid : Prop := fnExactUndoChangesRow.holds Try.pinned (OpenSpec.ofChange fnExactUndoChangesSpec)

/-- ITS FALSE NEIGHBOUR: 'it returns false'. Refute it at one input. -/
def fnExactUndoChangesWrong : ChangeSpec := { name := "fnExactUndoChanges", fn := fun _ => fun
  | [d1, d2] => { results := [.lit (.bool false)], args := [d1, d2] }
  | _ => none }
def FnExactUndoChangesWrongFalsely : Prop := fnExactUndoChangesRow.holds Try.pinned (OpenSpec.ofChange fnExactUndoChangesWrong)

/-- 'laws.FnExactChangedNodes': WHATEVER THE INPUT: true; the input reads as it did. -/
def fnExactChangedNodesSpec : ChangeSpec := { name := "fnExactChangedNodes", fn := fun _ => fun
  | [d1, d2] => { results := [.lit (.bool true)], args := [d1, d2] }
  | _ => none }
def fnExactChangedNodesRow : OpenClaim := { program := "ytdlnekfifogcaaa", sum := "4359ce6890d0836fe113466b2b960899511a977bfb8c668eea5326a7b2af2880", func := "loop.example/graphviews/laws.FnExactChangedNodes", spec := "fnExactChangedNodes", apart := false }
def FnExactChangedNodesSaid : Prop := fnExactChangedNodesRow.holds Try.pinned (OpenSpec.ofChange fnExactChangedNodesSpec)

/-- ITS FALSE NEIGHBOUR: 'it returns false'. Refute it at one input. -/
def fnExactChangedNodesWrong : ChangeSpec := { name := "fnExactChangedNodes", fn := fun _ => fun
  | [d1, d2] => { results := [.lit (.bool false)], args := [d1, d2] }
  | _ => none }
def FnExactChangedNodesWrongFalsely : Prop := fnExactChangedNodesRow.holds Try.pinned (OpenSpec.ofChange fnExactChangedNodesWrong)

/-- 'laws.FnExactKeepView': WHATEVER THE INPUT: true; the input reads as it did. -/
def fnExactKeepViewSpec : ChangeSpec := { name := "fnExactKeepView", fn := fun _ => fun
  | [d1, d2, d3] => { results := [.lit (.bool true)], args := [d1, d2, d3] }
  | _ => none }
def fnExactKeepViewRow : OpenClaim := { program := "ytdlnekfifogcaaa", sum := "4359ce6890d0836fe113466b2b960899511a977bfb8c668eea5326a7b2af2880", func := "loop.example/graphviews/laws.FnExactKeepView", spec := "fnExactKeepView", unfollowed := true, recurses := true, apart := false }
def FnExactKeepViewSaid : Prop := fnExactKeepViewRow.holds Try.pinned (OpenSpec.ofChange fnExactKeepViewSpec)

/-- ITS FALSE NEIGHBOUR: 'it returns false'. Refute it at one input. -/
def fnExactKeepViewWrong : ChangeSpec := { name := "fnExactKeepView", fn := fun _ => fun
  | [d1, d2, d3] => { results := [.lit (.bool false)], args := [d1, d2, d3] }
  | _ => none }
def FnExactKeepViewWrongFalsely : Prop := fnExactKeepViewRow.holds Try.pinned (OpenSpec.ofChange fnExactKeepViewWrong)

/- THE SECOND FORM. 'bulk': how many values and letters a reading holds, each counted each time it is reached (what is shared counts as often as it is met; a slice's spare places count too). A statement '..UptoSaid' is the law's where the arguments, and the package variables that the reading takes, are together of bulk at most 1048576: NARROWER than '..Said'. Prove '..Said' where nothing that the law and all that it calls make is longer than what came in: it says more and counts as full. Else prove '..UptoSaid'. A law counts once. -/
mutual
def uptoBulk {H : Type} : DataW H → Nat
  | .lit (.string bytes) => bytes.length + 1
  | .lit _ => 1
  | .nil => 1
  | .ptr d => uptoBulk d + 1
  | .slice elems spare => uptoBulkAll elems + uptoBulkAll spare + 1
  | .agg parts => uptoBulkAll parts + 1
  | .iface _ d => uptoBulk d + 1
  | .map entries => uptoBulkEntries entries + 1
  | .held _ => 1
def uptoBulkAll {H : Type} : List (DataW H) → Nat
  | [] => 0
  | d :: r => uptoBulk d + uptoBulkAll r
def uptoBulkEntries {H : Type} : List (Lit × DataW H) → Nat
  | [] => 0
  | x :: r => uptoBulkEntry x + uptoBulkEntries r
def uptoBulkEntry {H : Type} : Lit × DataW H → Nat
  | (.string bytes, d) => bytes.length + uptoBulk d + 1
  | (_, d) => uptoBulk d + 1
 end
def uptoSmall : (H : Type) → List (DataW H) → Bool := fun _ ds => decide (uptoBulkAll ds ≤ 1048576)
def OpenSpec.upto (s : _root_.Go.ChangeSpec) : _root_.Go.OpenSpec := { _root_.Go.OpenSpec.ofChange s with cond := some uptoSmall }

/-- 'laws.FnExactChangesValid', WHERE WHAT IT READS IS OF BULK AT MOST 1048576: true; the input reads as it did. -/
def fnExactChangesValidUptoRow : OpenClaim := { program := "ytdlnekfifogcaaa", sum := "4359ce6890d0836fe113466b2b960899511a977bfb8c668eea5326a7b2af2880", func := "loop.example/graphviews/laws.FnExactChangesValid", spec := "fnExactChangesValid", unfollowed := true, recurses := true, apart := false, narrowed := true }
def FnExactChangesValidUptoSaid : Prop := fnExactChangesValidUptoRow.holds Try.pinned (OpenSpec.upto fnExactChangesValidSpec)

/-- 'laws.FnExactApplyChanges', WHERE WHAT IT READS IS OF BULK AT MOST 1048576: true; the input reads as it did. -/
def fnExactApplyChangesUptoRow : OpenClaim := { program := "ytdlnekfifogcaaa", sum := "4359ce6890d0836fe113466b2b960899511a977bfb8c668eea5326a7b2af2880", func := "loop.example/graphviews/laws.FnExactApplyChanges", spec := "fnExactApplyChanges", unfollowed := true, recurses := true, apart := false, narrowed := true }
def FnExactApplyChangesUptoSaid : Prop := fnExactApplyChangesUptoRow.holds Try.pinned (OpenSpec.upto fnExactApplyChangesSpec)

/-- 'laws.FnExactNetChanges', WHERE WHAT IT READS IS OF BULK AT MOST 1048576: true; the input reads as it did. -/
def fnExactNetChangesUptoRow : OpenClaim := { program := "ytdlnekfifogcaaa", sum := "4359ce6890d0836fe113466b2b960899511a977bfb8c668eea5326a7b2af2880", func := "loop.example/graphviews/laws.FnExactNetChanges", spec := "fnExactNetChanges", unfollowed := true, recurses := true, apart := false, narrowed := true }
def FnExactNetChangesUptoSaid : Prop := fnExactNetChangesUptoRow.holds Try.pinned (OpenSpec.upto fnExactNetChangesSpec)

/-- 'laws.FnExactDiffGraphs', WHERE WHAT IT READS IS OF BULK AT MOST 1048576: true; the input reads as it did. -/
def fnExactDiffGraphsUptoRow : OpenClaim := { program := "ytdlnekfifogcaaa", sum := "4359ce6890d0836fe113466b2b960899511a977bfb8c668eea5326a7b2af2880", func := "loop.example/graphviews/laws.FnExactDiffGraphs", spec := "fnExactDiffGraphs", apart := false, narrowed := true }
def FnExactDiffGraphsUptoSaid : Prop := fnExactDiffGraphsUptoRow.holds Try.pinned (OpenSpec.upto fnExactDiffGraphsSpec)

/-- 'laws.FnExactUndoChanges', WHERE WHAT IT READS IS OF BULK AT MOST 1048576: true; the input reads as it did. -/
def fnExactUndoChangesUptoRow : OpenClaim := { program := "ytdlnekfifogcaaa", sum := "4359ce6890d0836fe113466b2b960899511a977bfb8c668eea5326a7b2af2880", func := "loop.example/graphviews/laws.FnExactUndoChanges", spec := "fnExactUndoChanges", unfollowed := true, recurses := true, apart := false, narrowed := true }
def FnExactUndoChangesUptoSaid : Prop := fnExactUndoChangesUptoRow.holds Try.pinned (OpenSpec.upto fnExactUndoChangesSpec)

/-- 'laws.FnExactChangedNodes', WHERE WHAT IT READS IS OF BULK AT MOST 1048576: true; the input reads as it did. -/
def fnExactChangedNodesUptoRow : OpenClaim := { program := "ytdlnekfifogcaaa", sum := "4359ce6890d0836fe113466b2b960899511a977bfb8c668eea5326a7b2af2880", func := "loop.example/graphviews/laws.FnExactChangedNodes", spec := "fnExactChangedNodes", apart := false, narrowed := true }
def FnExactChangedNodesUptoSaid : Prop := fnExactChangedNodesUptoRow.holds Try.pinned (OpenSpec.upto fnExactChangedNodesSpec)

/-- 'laws.FnExactKeepView', WHERE WHAT IT READS IS OF BULK AT MOST 1048576: true; the input reads as it did. -/
def fnExactKeepViewUptoRow : OpenClaim := { program := "ytdlnekfifogcaaa", sum := "4359ce6890d0836fe113466b2b960899511a977bfb8c668eea5326a7b2af2880", func := "loop.example/graphviews/laws.FnExactKeepView", spec := "fnExactKeepView", unfollowed := true, recurses := true, apart := false, narrowed := true }
def FnExactKeepViewUptoSaid : Prop := fnExactKeepViewUptoRow.holds Try.pinned (OpenSpec.upto fnExactKeepViewSpec)

end Rows
end Go.Proofs.Ytdlnekfifogcaaa
