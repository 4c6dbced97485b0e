/-
  No cell of these rows narrows 'for every input' (looked for: loops, veiled, ifaces, maps, wideKeys, modest, calm, conditions, laid).
  DERIVED. THE GIVEN ROWS OF THIS SEAT. 7 by the template 'for every input the law returns true; each argument reads behind the call as it read before'; 0 by the template 'total and deterministic' (their statements: YtdilimdicanbjaaTotals.lean).
  GIVEN WITH THE SEED: the statements are not yours to turn. If you find one false, say at which input.
  Laid BY PROGRAM, IN A SANDBOX (cutbox-rows.mjs): the forced cells as the released guide's own fill.sh prints them over the translation 6c2e46b0ed4c8619… (all of the seat's roots in one cut). By AI agents, Wed Nov 11 2026. No macro, syntax, notation, axiom, sorry.
-/
import Derived.Test.YtdilimdicanbjaaChecked
import GoSem.Claim
import GoSem.ClaimJoined
import GoSem.ClaimMapViews
import Derived.JoinedTies
import Derived.KernelRfl
namespace Go.Proofs.Ytdilimdicanbjaa
/- THE CELL 'sum', in the pinned program and in every row, IS THE sha256 OF THE DUMP (.gsa) THAT YtdilimdicanbjaaProg.lean LOADS. Nothing in Lean hashes anything: it is a label: what it is worth is what the hold of that sum in a sandbox is worth. -/
noncomputable def Try.pinned : Pinned := { name := "ytdilimdicanbjaa", sum := "6c2e46b0ed4c8619d90dffe61689683e5c0cb0410d9610fcd8b7bb43ef1c4fe4", checked := Try.checked }
namespace Rows
def none {H : Type} : Left H := { results := [], args := [] }

/-- 'laws.FnExactPathTo': WHATEVER THE INPUT: true; the input reads as it did. -/
def fnExactPathToSpec : ChangeSpec := { name := "fnExactPathTo", fn := fun _ => fun
  | [d1, d2, d3] => { results := [.lit (.bool true)], args := [d1, d2, d3] }
  | _ => none }
def fnExactPathToRow : OpenClaim := { program := "ytdilimdicanbjaa", sum := "6c2e46b0ed4c8619d90dffe61689683e5c0cb0410d9610fcd8b7bb43ef1c4fe4", func := "loop.example/graphviews/laws.FnExactPathTo", spec := "fnExactPathTo", apart := false }
def FnExactPathToSaid : Prop := fnExactPathToRow.holds Try.pinned (OpenSpec.ofChange fnExactPathToSpec)

/-- ITS FALSE NEIGHBOUR: 'it returns false'. Refute it at one input. -/
def fnExactPathToWrong : ChangeSpec := { name := "fnExactPathTo", fn := fun _ => fun
  | [d1, d2, d3] => { results := [.lit (.bool false)], args := [d1, d2, d3] }
  | _ => none }
def FnExactPathToWrongFalsely : Prop := fnExactPathToRow.holds Try.pinned (OpenSpec.ofChange fnExactPathToWrong)

/-- 'laws.FnExactPathEdges': WHATEVER THE INPUT: true; the input reads as it did. -/
def fnExactPathEdgesSpec : ChangeSpec := { name := "fnExactPathEdges", fn := fun _ => fun
  | [d1, d2] => { results := [.lit (.bool true)], args := [d1, d2] }
  | _ => none }
def fnExactPathEdgesRow : OpenClaim := { program := "ytdilimdicanbjaa", sum := "6c2e46b0ed4c8619d90dffe61689683e5c0cb0410d9610fcd8b7bb43ef1c4fe4", func := "loop.example/graphviews/laws.FnExactPathEdges", spec := "fnExactPathEdges", unfollowed := true, recurses := true, apart := false }
def FnExactPathEdgesSaid : Prop := fnExactPathEdgesRow.holds Try.pinned (OpenSpec.ofChange fnExactPathEdgesSpec)

/-- ITS FALSE NEIGHBOUR: 'it returns false'. Refute it at one input. -/
def fnExactPathEdgesWrong : ChangeSpec := { name := "fnExactPathEdges", fn := fun _ => fun
  | [d1, d2] => { results := [.lit (.bool false)], args := [d1, d2] }
  | _ => none }
def FnExactPathEdgesWrongFalsely : Prop := fnExactPathEdgesRow.holds Try.pinned (OpenSpec.ofChange fnExactPathEdgesWrong)

/-- 'laws.FnExactReachedNodes': WHATEVER THE INPUT: true; the input reads as it did. -/
def fnExactReachedNodesSpec : ChangeSpec := { name := "fnExactReachedNodes", fn := fun _ => fun
  | [d1, d2] => { results := [.lit (.bool true)], args := [d1, d2] }
  | _ => none }
def fnExactReachedNodesRow : OpenClaim := { program := "ytdilimdicanbjaa", sum := "6c2e46b0ed4c8619d90dffe61689683e5c0cb0410d9610fcd8b7bb43ef1c4fe4", func := "loop.example/graphviews/laws.FnExactReachedNodes", spec := "fnExactReachedNodes", unfollowed := true, recurses := true, apart := false }
def FnExactReachedNodesSaid : Prop := fnExactReachedNodesRow.holds Try.pinned (OpenSpec.ofChange fnExactReachedNodesSpec)

/-- ITS FALSE NEIGHBOUR: 'it returns false'. Refute it at one input. -/
def fnExactReachedNodesWrong : ChangeSpec := { name := "fnExactReachedNodes", fn := fun _ => fun
  | [d1, d2] => { results := [.lit (.bool false)], args := [d1, d2] }
  | _ => none }
def FnExactReachedNodesWrongFalsely : Prop := fnExactReachedNodesRow.holds Try.pinned (OpenSpec.ofChange fnExactReachedNodesWrong)

/-- 'laws.FnExactReverseGraph': WHATEVER THE INPUT: true; the input reads as it did. -/
def fnExactReverseGraphSpec : ChangeSpec := { name := "fnExactReverseGraph", fn := fun _ => fun
  | [d] => { results := [.lit (.bool true)], args := [d] }
  | _ => none }
def fnExactReverseGraphRow : OpenClaim := { program := "ytdilimdicanbjaa", sum := "6c2e46b0ed4c8619d90dffe61689683e5c0cb0410d9610fcd8b7bb43ef1c4fe4", func := "loop.example/graphviews/laws.FnExactReverseGraph", spec := "fnExactReverseGraph", unfollowed := true, recurses := true, apart := false }
def FnExactReverseGraphSaid : Prop := fnExactReverseGraphRow.holds Try.pinned (OpenSpec.ofChange fnExactReverseGraphSpec)

/-- ITS FALSE NEIGHBOUR: 'it returns false'. Refute it at one input. -/
def fnExactReverseGraphWrong : ChangeSpec := { name := "fnExactReverseGraph", fn := fun _ => fun
  | [d] => { results := [.lit (.bool false)], args := [d] }
  | _ => none }
def FnExactReverseGraphWrongFalsely : Prop := fnExactReverseGraphRow.holds Try.pinned (OpenSpec.ofChange fnExactReverseGraphWrong)

/-- 'laws.FnExactMeetInMiddle': WHATEVER THE INPUT: true; the input reads as it did. -/
def fnExactMeetInMiddleSpec : ChangeSpec := { name := "fnExactMeetInMiddle", fn := fun _ => fun
  | [d1, d2, d3, d4] => { results := [.lit (.bool true)], args := [d1, d2, d3, d4] }
  | _ => none }
def fnExactMeetInMiddleRow : OpenClaim := { program := "ytdilimdicanbjaa", sum := "6c2e46b0ed4c8619d90dffe61689683e5c0cb0410d9610fcd8b7bb43ef1c4fe4", func := "loop.example/graphviews/laws.FnExactMeetInMiddle", spec := "fnExactMeetInMiddle", unfollowed := true, recurses := true, apart := false }
def FnExactMeetInMiddleSaid : Prop := fnExactMeetInMiddleRow.holds Try.pinned (OpenSpec.ofChange fnExactMeetInMiddleSpec)

/-- ITS FALSE NEIGHBOUR: 'it returns false'. Refute it at one input. -/
def fnExactMeetInMiddleWrong : ChangeSpec := { name := "fnExactMeetInMiddle", fn := fun _ => fun
  | [d1, d2, d3, d4] => { results := [.lit (.bool false)], args := [d1, d2, d3, d4] }
  | _ => none }
def FnExactMeetInMiddleWrongFalsely : Prop := fnExactMeetInMiddleRow.holds Try.pinned (OpenSpec.ofChange fnExactMeetInMiddleWrong)

/-- 'laws.FnExactBestFirst': WHATEVER THE INPUT: true; the input reads as it did. -/
def fnExactBestFirstSpec : ChangeSpec := { name := "fnExactBestFirst", fn := fun _ => fun
  | [d1, d2, d3] => { results := [.lit (.bool true)], args := [d1, d2, d3] }
  | _ => none }
def fnExactBestFirstRow : OpenClaim := { program := "ytdilimdicanbjaa", sum := "6c2e46b0ed4c8619d90dffe61689683e5c0cb0410d9610fcd8b7bb43ef1c4fe4", func := "loop.example/graphviews/laws.FnExactBestFirst", spec := "fnExactBestFirst", unfollowed := true, recurses := true, apart := false }
def FnExactBestFirstSaid : Prop := fnExactBestFirstRow.holds Try.pinned (OpenSpec.ofChange fnExactBestFirstSpec)

/-- ITS FALSE NEIGHBOUR: 'it returns false'. Refute it at one input. -/
def fnExactBestFirstWrong : ChangeSpec := { name := "fnExactBestFirst", fn := fun _ => fun
  | [d1, d2, d3] => { results := [.lit (.bool false)], args := [d1, d2, d3] }
  | _ => none }
def FnExactBestFirstWrongFalsely : Prop := fnExactBestFirstRow.holds Try.pinned (OpenSpec.ofChange fnExactBestFirstWrong)

/-- 'laws.FnExactStopAt': WHATEVER THE INPUT: true; the input reads as it did. -/
def fnExactStopAtSpec : ChangeSpec := { name := "fnExactStopAt", fn := fun _ => fun
  | [d1, d2, d3, d4] => { results := [.lit (.bool true)], args := [d1, d2, d3, d4] }
  | _ => none }
def fnExactStopAtRow : OpenClaim := { program := "ytdilimdicanbjaa", sum := "6c2e46b0ed4c8619d90dffe61689683e5c0cb0410d9610fcd8b7bb43ef1c4fe4", func := "loop.example/graphviews/laws.FnExactStopAt", spec := "fnExactStopAt", unfollowed := true, recurses := true, apart := false }
def FnExactStopAtSaid : Prop := fnExactStopAtRow.holds Try.pinned (OpenSpec.ofChange fnExactStopAtSpec)

/-- ITS FALSE NEIGHBOUR: 'it returns false'. Refute it at one input. -/
def fnExactStopAtWrong : ChangeSpec := { name := "fnExactStopAt", fn := fun _ => fun
  | [d1, d2, d3, d4] => { results := [.lit (.bool false)], args := [d1, d2, d3, d4] }
  | _ => none }
def FnExactStopAtWrongFalsely : Prop := fnExactStopAtRow.holds Try.pinned (OpenSpec.ofChange fnExactStopAtWrong)

/- THE SECOND FORM. 'bulk': how many values and letters a reading holds, each counted each time it is reached (what is shared counts as often as it is met; a slice's spare places count too). A statement '..UptoSaid' is the law's where the arguments, and the package variables that the reading takes, are together of bulk at most 1048576: NARROWER than '..Said'. Prove '..Said' where nothing that the law and all that it calls make is longer than what came in: it says more and counts as full. Else prove '..UptoSaid'. A law counts once. -/
mutual
def uptoBulk {H : Type} : DataW H → Nat
  | .lit (.string bytes) => bytes.length + 1
  | .lit _ => 1
  | .nil => 1
  | .ptr d => uptoBulk d + 1
  | .slice elems spare => uptoBulkAll elems + uptoBulkAll spare + 1
  | .agg parts => uptoBulkAll parts + 1
  | .iface _ d => uptoBulk d + 1
  | .map entries => uptoBulkEntries entries + 1
  | .held _ => 1
def uptoBulkAll {H : Type} : List (DataW H) → Nat
  | [] => 0
  | d :: r => uptoBulk d + uptoBulkAll r
def uptoBulkEntries {H : Type} : List (Lit × DataW H) → Nat
  | [] => 0
  | x :: r => uptoBulkEntry x + uptoBulkEntries r
def uptoBulkEntry {H : Type} : Lit × DataW H → Nat
  | (.string bytes, d) => bytes.length + uptoBulk d + 1
  | (_, d) => uptoBulk d + 1
 end
def uptoSmall : (H : Type) → List (DataW H) → Bool := fun _ ds => decide (uptoBulkAll ds ≤ 1048576)
def OpenSpec.upto (s : _root_.Go.ChangeSpec) : _root_.Go.OpenSpec := { _root_.Go.OpenSpec.ofChange s with cond := some uptoSmall }

/-- 'laws.FnExactPathTo', WHERE WHAT IT READS IS OF BULK AT MOST 1048576: true; the input reads as it did. -/
def fnExactPathToUptoRow : OpenClaim := { program := "ytdilimdicanbjaa", sum := "6c2e46b0ed4c8619d90dffe61689683e5c0cb0410d9610fcd8b7bb43ef1c4fe4", func := "loop.example/graphviews/laws.FnExactPathTo", spec := "fnExactPathTo", apart := false, narrowed := true }
def FnExactPathToUptoSaid : Prop := fnExactPathToUptoRow.holds Try.pinned (OpenSpec.upto fnExactPathToSpec)

/-- 'laws.FnExactPathEdges', WHERE WHAT IT READS IS OF BULK AT MOST 1048576: true; the input reads as it did. -/
def fnExactPathEdgesUptoRow : OpenClaim := { program := "ytdilimdicanbjaa", sum := "6c2e46b0ed4c8619d90dffe61689683e5c0cb0410d9610fcd8b7bb43ef1c4fe4", func := "loop.example/graphviews/laws.FnExactPathEdges", spec := "fnExactPathEdges", unfollowed := true, recurses := true, apart := false, narrowed := true }
def FnExactPathEdgesUptoSaid : Prop := fnExactPathEdgesUptoRow.holds Try.pinned (OpenSpec.upto fnExactPathEdgesSpec)

/-- 'laws.FnExactReachedNodes', WHERE WHAT IT READS IS OF BULK AT MOST 1048576: true; the input reads as it did. -/
def fnExactReachedNodesUptoRow : OpenClaim := { program := "ytdilimdicanbjaa", sum := "6c2e46b0ed4c8619d90dffe61689683e5c0cb0410d9610fcd8b7bb43ef1c4fe4", func := "loop.example/graphviews/laws.FnExactReachedNodes", spec := "fnExactReachedNodes", unfollowed := true, recurses := true, apart := false, narrowed := true }
def FnExactReachedNodesUptoSaid : Prop := fnExactReachedNodesUptoRow.holds Try.pinned (OpenSpec.upto fnExactReachedNodesSpec)

/-- 'laws.FnExactReverseGraph', WHERE WHAT IT READS IS OF BULK AT MOST 1048576: true; the input reads as it did. -/
def fnExactReverseGraphUptoRow : OpenClaim := { program := "ytdilimdicanbjaa", sum := "6c2e46b0ed4c8619d90dffe61689683e5c0cb0410d9610fcd8b7bb43ef1c4fe4", func := "loop.example/graphviews/laws.FnExactReverseGraph", spec := "fnExactReverseGraph", unfollowed := true, recurses := true, apart := false, narrowed := true }
def FnExactReverseGraphUptoSaid : Prop := fnExactReverseGraphUptoRow.holds Try.pinned (OpenSpec.upto fnExactReverseGraphSpec)

/-- 'laws.FnExactMeetInMiddle', WHERE WHAT IT READS IS OF BULK AT MOST 1048576: true; the input reads as it did. -/
def fnExactMeetInMiddleUptoRow : OpenClaim := { program := "ytdilimdicanbjaa", sum := "6c2e46b0ed4c8619d90dffe61689683e5c0cb0410d9610fcd8b7bb43ef1c4fe4", func := "loop.example/graphviews/laws.FnExactMeetInMiddle", spec := "fnExactMeetInMiddle", unfollowed := true, recurses := true, apart := false, narrowed := true }
def FnExactMeetInMiddleUptoSaid : Prop := fnExactMeetInMiddleUptoRow.holds Try.pinned (OpenSpec.upto fnExactMeetInMiddleSpec)

/-- 'laws.FnExactBestFirst', WHERE WHAT IT READS IS OF BULK AT MOST 1048576: true; the input reads as it did. -/
def fnExactBestFirstUptoRow : OpenClaim := { program := "ytdilimdicanbjaa", sum := "6c2e46b0ed4c8619d90dffe61689683e5c0cb0410d9610fcd8b7bb43ef1c4fe4", func := "loop.example/graphviews/laws.FnExactBestFirst", spec := "fnExactBestFirst", unfollowed := true, recurses := true, apart := false, narrowed := true }
def FnExactBestFirstUptoSaid : Prop := fnExactBestFirstUptoRow.holds Try.pinned (OpenSpec.upto fnExactBestFirstSpec)

/-- 'laws.FnExactStopAt', WHERE WHAT IT READS IS OF BULK AT MOST 1048576: true; the input reads as it did. -/
def fnExactStopAtUptoRow : OpenClaim := { program := "ytdilimdicanbjaa", sum := "6c2e46b0ed4c8619d90dffe61689683e5c0cb0410d9610fcd8b7bb43ef1c4fe4", func := "loop.example/graphviews/laws.FnExactStopAt", spec := "fnExactStopAt", unfollowed := true, recurses := true, apart := false, narrowed := true }
def FnExactStopAtUptoSaid : Prop := fnExactStopAtUptoRow.holds Try.pinned (OpenSpec.upto fnExactStopAtSpec)

end Rows
end Go.Proofs.Ytdilimdicanbjaa
