/-
  No cell of these rows narrows 'for every input' (looked for: loops, veiled, ifaces, maps, wideKeys, modest, calm, conditions, laid).
  DERIVED. THE GIVEN ROWS OF THIS SEAT. 7 by the template 'for every input the law returns true; each argument reads behind the call as it read before'; 0 by the template 'total and deterministic' (their statements: YthkmelkhpkmhaaaTotals.lean).
  GIVEN WITH THE SEED: the statements are not yours to turn. If you find one false, say at which input.
  Laid BY PROGRAM, IN A SANDBOX (cutbox-rows.mjs): the forced cells as the released guide's own fill.sh prints them over the translation 3804a888af80ff65… (all of the seat's roots in one cut). By AI agents, Wed Nov 11 2026. No macro, syntax, notation, axiom, sorry.
-/
import Derived.Test.YthkmelkhpkmhaaaChecked
import GoSem.Claim
import GoSem.ClaimJoined
import GoSem.ClaimMapViews
import Derived.JoinedTies
import Derived.KernelRfl
namespace Go.Proofs.Ythkmelkhpkmhaaa
/- THE CELL 'sum', in the pinned program and in every row, IS THE sha256 OF THE DUMP (.gsa) THAT YthkmelkhpkmhaaaProg.lean LOADS. Nothing in Lean hashes anything: it is a label: what it is worth is what the hold of that sum in a sandbox is worth. -/
noncomputable def Try.pinned : Pinned := { name := "ythkmelkhpkmhaaa", sum := "3804a888af80ff659cf5af1c8c3b3d0ea14e8baae4096618b5126b9fc3655d64", checked := Try.checked }
namespace Rows
def none {H : Type} : Left H := { results := [], args := [] }

/-- 'laws.FnExactWithoutNodes': WHATEVER THE INPUT: true; the input reads as it did. -/
def fnExactWithoutNodesSpec : ChangeSpec := { name := "fnExactWithoutNodes", fn := fun _ => fun
  | [d1, d2] => { results := [.lit (.bool true)], args := [d1, d2] }
  | _ => none }
def fnExactWithoutNodesRow : OpenClaim := { program := "ythkmelkhpkmhaaa", sum := "3804a888af80ff659cf5af1c8c3b3d0ea14e8baae4096618b5126b9fc3655d64", func := "loop.example/graphviews/laws.FnExactWithoutNodes", spec := "fnExactWithoutNodes", unfollowed := true, recurses := true, apart := false }
def FnExactWithoutNodesSaid : Prop := fnExactWithoutNodesRow.holds Try.pinned (OpenSpec.ofChange fnExactWithoutNodesSpec)

/-- ITS FALSE NEIGHBOUR: 'it returns false'. Refute it at one input. -/
def fnExactWithoutNodesWrong : ChangeSpec := { name := "fnExactWithoutNodes", fn := fun _ => fun
  | [d1, d2] => { results := [.lit (.bool false)], args := [d1, d2] }
  | _ => none }
def FnExactWithoutNodesWrongFalsely : Prop := fnExactWithoutNodesRow.holds Try.pinned (OpenSpec.ofChange fnExactWithoutNodesWrong)

/-- 'laws.FnExactViewAvoiding': WHATEVER THE INPUT: true; the input reads as it did. -/
def fnExactViewAvoidingSpec : ChangeSpec := { name := "fnExactViewAvoiding", fn := fun _ => fun
  | [d1, d2, d3, d4] => { results := [.lit (.bool true)], args := [d1, d2, d3, d4] }
  | _ => none }
def fnExactViewAvoidingRow : OpenClaim := { program := "ythkmelkhpkmhaaa", sum := "3804a888af80ff659cf5af1c8c3b3d0ea14e8baae4096618b5126b9fc3655d64", func := "loop.example/graphviews/laws.FnExactViewAvoiding", spec := "fnExactViewAvoiding", unfollowed := true, recurses := true, apart := false }
def FnExactViewAvoidingSaid : Prop := fnExactViewAvoidingRow.holds Try.pinned (OpenSpec.ofChange fnExactViewAvoidingSpec)

/-- ITS FALSE NEIGHBOUR: 'it returns false'. Refute it at one input. -/
def fnExactViewAvoidingWrong : ChangeSpec := { name := "fnExactViewAvoiding", fn := fun _ => fun
  | [d1, d2, d3, d4] => { results := [.lit (.bool false)], args := [d1, d2, d3, d4] }
  | _ => none }
def FnExactViewAvoidingWrongFalsely : Prop := fnExactViewAvoidingRow.holds Try.pinned (OpenSpec.ofChange fnExactViewAvoidingWrong)

/-- 'laws.FnExactNearestOf': WHATEVER THE INPUT: true; the input reads as it did. -/
def fnExactNearestOfSpec : ChangeSpec := { name := "fnExactNearestOf", fn := fun _ => fun
  | [d1, d2, d3] => { results := [.lit (.bool true)], args := [d1, d2, d3] }
  | _ => none }
def fnExactNearestOfRow : OpenClaim := { program := "ythkmelkhpkmhaaa", sum := "3804a888af80ff659cf5af1c8c3b3d0ea14e8baae4096618b5126b9fc3655d64", func := "loop.example/graphviews/laws.FnExactNearestOf", spec := "fnExactNearestOf", unfollowed := true, recurses := true, apart := false }
def FnExactNearestOfSaid : Prop := fnExactNearestOfRow.holds Try.pinned (OpenSpec.ofChange fnExactNearestOfSpec)

/-- ITS FALSE NEIGHBOUR: 'it returns false'. Refute it at one input. -/
def fnExactNearestOfWrong : ChangeSpec := { name := "fnExactNearestOf", fn := fun _ => fun
  | [d1, d2, d3] => { results := [.lit (.bool false)], args := [d1, d2, d3] }
  | _ => none }
def FnExactNearestOfWrongFalsely : Prop := fnExactNearestOfRow.holds Try.pinned (OpenSpec.ofChange fnExactNearestOfWrong)

/-- 'laws.FnExactWithinBound': WHATEVER THE INPUT: true; the input reads as it did. -/
def fnExactWithinBoundSpec : ChangeSpec := { name := "fnExactWithinBound", fn := fun _ => fun
  | [d1, d2, d3] => { results := [.lit (.bool true)], args := [d1, d2, d3] }
  | _ => none }
def fnExactWithinBoundRow : OpenClaim := { program := "ythkmelkhpkmhaaa", sum := "3804a888af80ff659cf5af1c8c3b3d0ea14e8baae4096618b5126b9fc3655d64", func := "loop.example/graphviews/laws.FnExactWithinBound", spec := "fnExactWithinBound", unfollowed := true, recurses := true, apart := false }
def FnExactWithinBoundSaid : Prop := fnExactWithinBoundRow.holds Try.pinned (OpenSpec.ofChange fnExactWithinBoundSpec)

/-- ITS FALSE NEIGHBOUR: 'it returns false'. Refute it at one input. -/
def fnExactWithinBoundWrong : ChangeSpec := { name := "fnExactWithinBound", fn := fun _ => fun
  | [d1, d2, d3] => { results := [.lit (.bool false)], args := [d1, d2, d3] }
  | _ => none }
def FnExactWithinBoundWrongFalsely : Prop := fnExactWithinBoundRow.holds Try.pinned (OpenSpec.ofChange fnExactWithinBoundWrong)

/-- 'laws.FnExactBridgeNodes': WHATEVER THE INPUT: true; the input reads as it did. -/
def fnExactBridgeNodesSpec : ChangeSpec := { name := "fnExactBridgeNodes", fn := fun _ => fun
  | [d1, d2, d3] => { results := [.lit (.bool true)], args := [d1, d2, d3] }
  | _ => none }
def fnExactBridgeNodesRow : OpenClaim := { program := "ythkmelkhpkmhaaa", sum := "3804a888af80ff659cf5af1c8c3b3d0ea14e8baae4096618b5126b9fc3655d64", func := "loop.example/graphviews/laws.FnExactBridgeNodes", spec := "fnExactBridgeNodes", unfollowed := true, recurses := true, apart := false }
def FnExactBridgeNodesSaid : Prop := fnExactBridgeNodesRow.holds Try.pinned (OpenSpec.ofChange fnExactBridgeNodesSpec)

/-- ITS FALSE NEIGHBOUR: 'it returns false'. Refute it at one input. -/
def fnExactBridgeNodesWrong : ChangeSpec := { name := "fnExactBridgeNodes", fn := fun _ => fun
  | [d1, d2, d3] => { results := [.lit (.bool false)], args := [d1, d2, d3] }
  | _ => none }
def FnExactBridgeNodesWrongFalsely : Prop := fnExactBridgeNodesRow.holds Try.pinned (OpenSpec.ofChange fnExactBridgeNodesWrong)

/-- 'laws.FnExactCriticalEdges': WHATEVER THE INPUT: true; the input reads as it did. -/
def fnExactCriticalEdgesSpec : ChangeSpec := { name := "fnExactCriticalEdges", fn := fun _ => fun
  | [d1, d2, d3] => { results := [.lit (.bool true)], args := [d1, d2, d3] }
  | _ => none }
def fnExactCriticalEdgesRow : OpenClaim := { program := "ythkmelkhpkmhaaa", sum := "3804a888af80ff659cf5af1c8c3b3d0ea14e8baae4096618b5126b9fc3655d64", func := "loop.example/graphviews/laws.FnExactCriticalEdges", spec := "fnExactCriticalEdges", unfollowed := true, recurses := true, apart := false }
def FnExactCriticalEdgesSaid : Prop := fnExactCriticalEdgesRow.holds Try.pinned (OpenSpec.ofChange fnExactCriticalEdgesSpec)

/-- ITS FALSE NEIGHBOUR: 'it returns false'. Refute it at one input. -/
def fnExactCriticalEdgesWrong : ChangeSpec := { name := "fnExactCriticalEdges", fn := fun _ => fun
  | [d1, d2, d3] => { results := [.lit (.bool false)], args := [d1, d2, d3] }
  | _ => none }
def FnExactCriticalEdgesWrongFalsely : Prop := fnExactCriticalEdgesRow.holds Try.pinned (OpenSpec.ofChange fnExactCriticalEdgesWrong)

/-- 'laws.FnExactRanksOf': WHATEVER THE INPUT: true; the input reads as it did. -/
def fnExactRanksOfSpec : ChangeSpec := { name := "fnExactRanksOf", fn := fun _ => fun
  | [d1, d2] => { results := [.lit (.bool true)], args := [d1, d2] }
  | _ => none }
def fnExactRanksOfRow : OpenClaim := { program := "ythkmelkhpkmhaaa", sum := "3804a888af80ff659cf5af1c8c3b3d0ea14e8baae4096618b5126b9fc3655d64", func := "loop.example/graphviews/laws.FnExactRanksOf", spec := "fnExactRanksOf", unfollowed := true, recurses := true, apart := false }
def FnExactRanksOfSaid : Prop := fnExactRanksOfRow.holds Try.pinned (OpenSpec.ofChange fnExactRanksOfSpec)

/-- ITS FALSE NEIGHBOUR: 'it returns false'. Refute it at one input. -/
def fnExactRanksOfWrong : ChangeSpec := { name := "fnExactRanksOf", fn := fun _ => fun
  | [d1, d2] => { results := [.lit (.bool false)], args := [d1, d2] }
  | _ => none }
def FnExactRanksOfWrongFalsely : Prop := fnExactRanksOfRow.holds Try.pinned (OpenSpec.ofChange fnExactRanksOfWrong)

/- THE SECOND FORM. 'bulk': how many values and letters a reading holds, each counted each time it is reached (what is shared counts as often as it is met; a slice's spare places count too). A statement '..UptoSaid' is the law's where the arguments, and the package variables that the reading takes, are together of bulk at most 1048576: NARROWER than '..Said'. Prove '..Said' where nothing that the law and all that it calls make is longer than what came in: it says more and counts as full. Else prove '..UptoSaid'. A law counts once. -/
mutual
def uptoBulk {H : Type} : DataW H → Nat
  | .lit (.string bytes) => bytes.length + 1
  | .lit _ => 1
  | .nil => 1
  | .ptr d => uptoBulk d + 1
  | .slice elems spare => uptoBulkAll elems + uptoBulkAll spare + 1
  | .agg parts => uptoBulkAll parts + 1
  | .iface _ d => uptoBulk d + 1
  | .map entries => uptoBulkEntries entries + 1
  | .held _ => 1
def uptoBulkAll {H : Type} : List (DataW H) → Nat
  | [] => 0
  | d :: r => uptoBulk d + uptoBulkAll r
def uptoBulkEntries {H : Type} : List (Lit × DataW H) → Nat
  | [] => 0
  | x :: r => uptoBulkEntry x + uptoBulkEntries r
def uptoBulkEntry {H : Type} : Lit × DataW H → Nat
  | (.string bytes, d) => bytes.length + uptoBulk d + 1
  | (_, d) => uptoBulk d + 1
 end
def uptoSmall : (H : Type) → List (DataW H) → Bool := fun _ ds => decide (uptoBulkAll ds ≤ 1048576)
def OpenSpec.upto (s : _root_.Go.ChangeSpec) : _root_.Go.OpenSpec := { _root_.Go.OpenSpec.ofChange s with cond := some uptoSmall }

/-- 'laws.FnExactWithoutNodes', WHERE WHAT IT READS IS OF BULK AT MOST 1048576: true; the input reads as it did. -/
def fnExactWithoutNodesUptoRow : OpenClaim := { program := "ythkmelkhpkmhaaa", sum := "3804a888af80ff659cf5af1c8c3b3d0ea14e8baae4096618b5126b9fc3655d64", func := "loop.example/graphviews/laws.FnExactWithoutNodes", spec := "fnExactWithoutNodes", unfollowed := true, recurses := true, apart := false, narrowed := true }
def FnExactWithoutNodesUptoSaid : Prop := fnExactWithoutNodesUptoRow.holds Try.pinned (OpenSpec.upto fnExactWithoutNodesSpec)

/-- 'laws.FnExactViewAvoiding', WHERE WHAT IT READS IS OF BULK AT MOST 1048576: true; the input reads as it did. -/
def fnExactViewAvoidingUptoRow : OpenClaim := { program := "ythkmelkhpkmhaaa", sum := "3804a888af80ff659cf5af1c8c3b3d0ea14e8baae4096618b5126b9fc3655d64", func := "loop.example/graphviews/laws.FnExactViewAvoiding", spec := "fnExactViewAvoiding", unfollowed := true, recurses := true, apart := false, narrowed := true }
def FnExactViewAvoidingUptoSaid : Prop := fnExactViewAvoidingUptoRow.holds Try.pinned (OpenSpec.upto fnExactViewAvoidingSpec)

/-- 'laws.FnExactNearestOf', WHERE WHAT IT READS IS OF BULK AT MOST 1048576: true; the input reads as it did. -/
def fnExactNearestOfUptoRow : OpenClaim := { program := "ythkmelkhpkmhaaa", sum := "3804a888af80ff659cf5af1c8c3b3d0ea14e8baae4096618b5126b9fc3655d64", func := "loop.example/graphviews/laws.FnExactNearestOf", spec := "fnExactNearestOf", unfollowed := true, recurses := true, apart := false, narrowed := true }
def FnExactNearestOfUptoSaid : Prop := fnExactNearestOfUptoRow.holds Try.pinned (OpenSpec.upto fnExactNearestOfSpec)

/-- 'laws.FnExactWithinBound', WHERE WHAT IT READS IS OF BULK AT MOST 1048576: true; the input reads as it did. -/
def fnExactWithinBoundUptoRow : OpenClaim := { program := "ythkmelkhpkmhaaa", sum := "3804a888af80ff659cf5af1c8c3b3d0ea14e8baae4096618b5126b9fc3655d64", func := "loop.example/graphviews/laws.FnExactWithinBound", spec := "fnExactWithinBound", unfollowed := true, recurses := true, apart := false, narrowed := true }
def FnExactWithinBoundUptoSaid : Prop := fnExactWithinBoundUptoRow.holds Try.pinned (OpenSpec.upto fnExactWithinBoundSpec)

/-- 'laws.FnExactBridgeNodes', WHERE WHAT IT READS IS OF BULK AT MOST 1048576: true; the input reads as it did. -/
def fnExactBridgeNodesUptoRow : OpenClaim := { program := "ythkmelkhpkmhaaa", sum := "3804a888af80ff659cf5af1c8c3b3d0ea14e8baae4096618b5126b9fc3655d64", func := "loop.example/graphviews/laws.FnExactBridgeNodes", spec := "fnExactBridgeNodes", unfollowed := true, recurses := true, apart := false, narrowed := true }
def FnExactBridgeNodesUptoSaid : Prop := fnExactBridgeNodesUptoRow.holds Try.pinned (OpenSpec.upto fnExactBridgeNodesSpec)

/-- 'laws.FnExactCriticalEdges', WHERE WHAT IT READS IS OF BULK AT MOST 1048576: true; the input reads as it did. -/
def fnExactCriticalEdgesUptoRow : OpenClaim := { program := "ythkmelkhpkmhaaa", sum := "3804a888af80ff659cf5af1c8c3b3d0ea14e8baae4096618b5126b9fc3655d64", func := "loop.example/graphviews/laws.FnExactCriticalEdges", spec := "fnExactCriticalEdges", unfollowed := true, recurses := true, apart := false, narrowed := true }
def FnExactCriticalEdgesUptoSaid : Prop := fnExactCriticalEdgesUptoRow.holds Try.pinned (OpenSpec.upto fnExactCriticalEdgesSpec)

/-- 'laws.FnExactRanksOf', WHERE WHAT IT READS IS OF BULK AT MOST 1048576: true; the input reads as it did. -/
def fnExactRanksOfUptoRow : OpenClaim := { program := "ythkmelkhpkmhaaa", sum := "3804a888af80ff659cf5af1c8c3b3d0ea14e8baae4096618b5126b9fc3655d64", func := "loop.example/graphviews/laws.FnExactRanksOf", spec := "fnExactRanksOf", unfollowed := true, recurses := true, apart := false, narrowed := true }
def FnExactRanksOfUptoSaid : Prop := fnExactRanksOfUptoRow.holds Try.pinned (OpenSpec.upto fnExactRanksOfSpec)

end Rows
end Go.Proofs.Ythkmelkhpkmhaaa
