/-
  No cell of these rows narrows 'for every input' (looked for: loops, veiled, ifaces, maps, wideKeys, modest, calm, conditions, laid).
  DERIVED. THE GIVEN ROWS OF THIS SEAT. 11 by the template 'for every input the law returns true; each argument reads behind the call as it read before'; 0 by the template 'total and deterministic' (their statements: YtlmhccjppmhdbaaTotals.lean).
  GIVEN WITH THE SEED: the statements are not yours to turn. If you find one false, say at which input.
  Laid BY PROGRAM, IN A SANDBOX (cutbox-rows.mjs): the forced cells as the released guide's own fill.sh prints them over the translation 48d33f520275b393… (all of the seat's roots in one cut). By AI agents, Wed Nov 11 2026. No macro, syntax, notation, axiom, sorry.
-/
import Derived.Test.YtlmhccjppmhdbaaChecked
import GoSem.Claim
import GoSem.ClaimJoined
import GoSem.ClaimMapViews
import Derived.JoinedTies
import Derived.KernelRfl
namespace Go.Proofs.Ytlmhccjppmhdbaa
/- THE CELL 'sum', in the pinned program and in every row, IS THE sha256 OF THE DUMP (.gsa) THAT YtlmhccjppmhdbaaProg.lean LOADS. Nothing in Lean hashes anything: it is a label: what it is worth is what the hold of that sum in a sandbox is worth. -/
noncomputable def Try.pinned : Pinned := { name := "ytlmhccjppmhdbaa", sum := "48d33f520275b3930910bd0a37aa38271527263aec4402370efe633d89a7f1a2", checked := Try.checked }
namespace Rows
def none {H : Type} : Left H := { results := [], args := [] }

/-- 'laws.FnExactBestFirst': WHATEVER THE INPUT: true; the input reads as it did. -/
def fnExactBestFirstSpec : ChangeSpec := { name := "fnExactBestFirst", fn := fun _ => fun
  | [d1, d2, d3] => { results := [.lit (.bool true)], args := [d1, d2, d3] }
  | _ => none }
def fnExactBestFirstRow : OpenClaim := { program := "ytlmhccjppmhdbaa", sum := "48d33f520275b3930910bd0a37aa38271527263aec4402370efe633d89a7f1a2", func := "loop.example/graphviews/laws.FnExactBestFirst", spec := "fnExactBestFirst", unfollowed := true, recurses := true, apart := false }
def FnExactBestFirstSaid : Prop := fnExactBestFirstRow.holds Try.pinned (OpenSpec.ofChange fnExactBestFirstSpec)

/-- ITS FALSE NEIGHBOUR: 'it returns false'. Refute it at one input. -/
def fnExactBestFirstWrong : ChangeSpec := { name := "fnExactBestFirst", fn := fun _ => fun
  | [d1, d2, d3] => { results := [.lit (.bool false)], args := [d1, d2, d3] }
  | _ => none }
def FnExactBestFirstWrongFalsely : Prop := fnExactBestFirstRow.holds Try.pinned (OpenSpec.ofChange fnExactBestFirstWrong)

/-- 'laws.FnExactStopAt': WHATEVER THE INPUT: true; the input reads as it did. -/
def fnExactStopAtSpec : ChangeSpec := { name := "fnExactStopAt", fn := fun _ => fun
  | [d1, d2, d3, d4] => { results := [.lit (.bool true)], args := [d1, d2, d3, d4] }
  | _ => none }
def fnExactStopAtRow : OpenClaim := { program := "ytlmhccjppmhdbaa", sum := "48d33f520275b3930910bd0a37aa38271527263aec4402370efe633d89a7f1a2", func := "loop.example/graphviews/laws.FnExactStopAt", spec := "fnExactStopAt", unfollowed := true, recurses := true, apart := false }
def FnExactStopAtSaid : Prop := fnExactStopAtRow.holds Try.pinned (OpenSpec.ofChange fnExactStopAtSpec)

/-- ITS FALSE NEIGHBOUR: 'it returns false'. Refute it at one input. -/
def fnExactStopAtWrong : ChangeSpec := { name := "fnExactStopAt", fn := fun _ => fun
  | [d1, d2, d3, d4] => { results := [.lit (.bool false)], args := [d1, d2, d3, d4] }
  | _ => none }
def FnExactStopAtWrongFalsely : Prop := fnExactStopAtRow.holds Try.pinned (OpenSpec.ofChange fnExactStopAtWrong)

/-- 'laws.FnExactKeepView': WHATEVER THE INPUT: true; the input reads as it did. -/
def fnExactKeepViewSpec : ChangeSpec := { name := "fnExactKeepView", fn := fun _ => fun
  | [d1, d2, d3] => { results := [.lit (.bool true)], args := [d1, d2, d3] }
  | _ => none }
def fnExactKeepViewRow : OpenClaim := { program := "ytlmhccjppmhdbaa", sum := "48d33f520275b3930910bd0a37aa38271527263aec4402370efe633d89a7f1a2", func := "loop.example/graphviews/laws.FnExactKeepView", spec := "fnExactKeepView", unfollowed := true, recurses := true, apart := false }
def FnExactKeepViewSaid : Prop := fnExactKeepViewRow.holds Try.pinned (OpenSpec.ofChange fnExactKeepViewSpec)

/-- ITS FALSE NEIGHBOUR: 'it returns false'. Refute it at one input. -/
def fnExactKeepViewWrong : ChangeSpec := { name := "fnExactKeepView", fn := fun _ => fun
  | [d1, d2, d3] => { results := [.lit (.bool false)], args := [d1, d2, d3] }
  | _ => none }
def FnExactKeepViewWrongFalsely : Prop := fnExactKeepViewRow.holds Try.pinned (OpenSpec.ofChange fnExactKeepViewWrong)

/-- 'laws.FnBestFirst': WHATEVER THE INPUT: true; the input reads as it did. -/
def fnBestFirstSpec : ChangeSpec := { name := "fnBestFirst", fn := fun _ => fun
  | [d] => { results := [.lit (.bool true)], args := [d] }
  | _ => none }
def fnBestFirstRow : OpenClaim := { program := "ytlmhccjppmhdbaa", sum := "48d33f520275b3930910bd0a37aa38271527263aec4402370efe633d89a7f1a2", func := "loop.example/graphviews/laws.FnBestFirst", spec := "fnBestFirst", unfollowed := true, recurses := true, apart := false }
def FnBestFirstSaid : Prop := fnBestFirstRow.holds Try.pinned (OpenSpec.ofChange fnBestFirstSpec)

/-- ITS FALSE NEIGHBOUR: 'it returns false'. Refute it at one input. -/
def fnBestFirstWrong : ChangeSpec := { name := "fnBestFirst", fn := fun _ => fun
  | [d] => { results := [.lit (.bool false)], args := [d] }
  | _ => none }
def FnBestFirstWrongFalsely : Prop := fnBestFirstRow.holds Try.pinned (OpenSpec.ofChange fnBestFirstWrong)

/-- 'laws.FnStopAt': WHATEVER THE INPUT: true; the input reads as it did. -/
def fnStopAtSpec : ChangeSpec := { name := "fnStopAt", fn := fun _ => fun
  | [d] => { results := [.lit (.bool true)], args := [d] }
  | _ => none }
def fnStopAtRow : OpenClaim := { program := "ytlmhccjppmhdbaa", sum := "48d33f520275b3930910bd0a37aa38271527263aec4402370efe633d89a7f1a2", func := "loop.example/graphviews/laws.FnStopAt", spec := "fnStopAt", unfollowed := true, recurses := true, apart := false }
def FnStopAtSaid : Prop := fnStopAtRow.holds Try.pinned (OpenSpec.ofChange fnStopAtSpec)

/-- ITS FALSE NEIGHBOUR: 'it returns false'. Refute it at one input. -/
def fnStopAtWrong : ChangeSpec := { name := "fnStopAt", fn := fun _ => fun
  | [d] => { results := [.lit (.bool false)], args := [d] }
  | _ => none }
def FnStopAtWrongFalsely : Prop := fnStopAtRow.holds Try.pinned (OpenSpec.ofChange fnStopAtWrong)

/-- 'laws.FnSettledParents': WHATEVER THE INPUT: true; the input reads as it did. -/
def fnSettledParentsSpec : ChangeSpec := { name := "fnSettledParents", fn := fun _ => fun
  | [d] => { results := [.lit (.bool true)], args := [d] }
  | _ => none }
def fnSettledParentsRow : OpenClaim := { program := "ytlmhccjppmhdbaa", sum := "48d33f520275b3930910bd0a37aa38271527263aec4402370efe633d89a7f1a2", func := "loop.example/graphviews/laws.FnSettledParents", spec := "fnSettledParents", unfollowed := true, recurses := true, apart := false }
def FnSettledParentsSaid : Prop := fnSettledParentsRow.holds Try.pinned (OpenSpec.ofChange fnSettledParentsSpec)

/-- ITS FALSE NEIGHBOUR: 'it returns false'. Refute it at one input. -/
def fnSettledParentsWrong : ChangeSpec := { name := "fnSettledParents", fn := fun _ => fun
  | [d] => { results := [.lit (.bool false)], args := [d] }
  | _ => none }
def FnSettledParentsWrongFalsely : Prop := fnSettledParentsRow.holds Try.pinned (OpenSpec.ofChange fnSettledParentsWrong)

/-- 'laws.FnStopSource': WHATEVER THE INPUT: true; the input reads as it did. -/
def fnStopSourceSpec : ChangeSpec := { name := "fnStopSource", fn := fun _ => fun
  | [d] => { results := [.lit (.bool true)], args := [d] }
  | _ => none }
def fnStopSourceRow : OpenClaim := { program := "ytlmhccjppmhdbaa", sum := "48d33f520275b3930910bd0a37aa38271527263aec4402370efe633d89a7f1a2", func := "loop.example/graphviews/laws.FnStopSource", spec := "fnStopSource", unfollowed := true, recurses := true, apart := false }
def FnStopSourceSaid : Prop := fnStopSourceRow.holds Try.pinned (OpenSpec.ofChange fnStopSourceSpec)

/-- ITS FALSE NEIGHBOUR: 'it returns false'. Refute it at one input. -/
def fnStopSourceWrong : ChangeSpec := { name := "fnStopSource", fn := fun _ => fun
  | [d] => { results := [.lit (.bool false)], args := [d] }
  | _ => none }
def FnStopSourceWrongFalsely : Prop := fnStopSourceRow.holds Try.pinned (OpenSpec.ofChange fnStopSourceWrong)

/-- 'laws.FnPathTo': WHATEVER THE INPUT: true; the input reads as it did. -/
def fnPathToSpec : ChangeSpec := { name := "fnPathTo", fn := fun _ => fun
  | [d] => { results := [.lit (.bool true)], args := [d] }
  | _ => none }
def fnPathToRow : OpenClaim := { program := "ytlmhccjppmhdbaa", sum := "48d33f520275b3930910bd0a37aa38271527263aec4402370efe633d89a7f1a2", func := "loop.example/graphviews/laws.FnPathTo", spec := "fnPathTo", unfollowed := true, recurses := true, apart := false }
def FnPathToSaid : Prop := fnPathToRow.holds Try.pinned (OpenSpec.ofChange fnPathToSpec)

/-- ITS FALSE NEIGHBOUR: 'it returns false'. Refute it at one input. -/
def fnPathToWrong : ChangeSpec := { name := "fnPathTo", fn := fun _ => fun
  | [d] => { results := [.lit (.bool false)], args := [d] }
  | _ => none }
def FnPathToWrongFalsely : Prop := fnPathToRow.holds Try.pinned (OpenSpec.ofChange fnPathToWrong)

/-- 'laws.FnPathEdges': WHATEVER THE INPUT: true; the input reads as it did. -/
def fnPathEdgesSpec : ChangeSpec := { name := "fnPathEdges", fn := fun _ => fun
  | [d] => { results := [.lit (.bool true)], args := [d] }
  | _ => none }
def fnPathEdgesRow : OpenClaim := { program := "ytlmhccjppmhdbaa", sum := "48d33f520275b3930910bd0a37aa38271527263aec4402370efe633d89a7f1a2", func := "loop.example/graphviews/laws.FnPathEdges", spec := "fnPathEdges", unfollowed := true, recurses := true, apart := false }
def FnPathEdgesSaid : Prop := fnPathEdgesRow.holds Try.pinned (OpenSpec.ofChange fnPathEdgesSpec)

/-- ITS FALSE NEIGHBOUR: 'it returns false'. Refute it at one input. -/
def fnPathEdgesWrong : ChangeSpec := { name := "fnPathEdges", fn := fun _ => fun
  | [d] => { results := [.lit (.bool false)], args := [d] }
  | _ => none }
def FnPathEdgesWrongFalsely : Prop := fnPathEdgesRow.holds Try.pinned (OpenSpec.ofChange fnPathEdgesWrong)

/-- 'laws.FnPathAccepts': WHATEVER THE INPUT: true; the input reads as it did. -/
def fnPathAcceptsSpec : ChangeSpec := { name := "fnPathAccepts", fn := fun _ => fun
  | [d] => { results := [.lit (.bool true)], args := [d] }
  | _ => none }
def fnPathAcceptsRow : OpenClaim := { program := "ytlmhccjppmhdbaa", sum := "48d33f520275b3930910bd0a37aa38271527263aec4402370efe633d89a7f1a2", func := "loop.example/graphviews/laws.FnPathAccepts", spec := "fnPathAccepts", apart := false }
def FnPathAcceptsSaid : Prop := fnPathAcceptsRow.holds Try.pinned (OpenSpec.ofChange fnPathAcceptsSpec)

/-- ITS FALSE NEIGHBOUR: 'it returns false'. Refute it at one input. -/
def fnPathAcceptsWrong : ChangeSpec := { name := "fnPathAccepts", fn := fun _ => fun
  | [d] => { results := [.lit (.bool false)], args := [d] }
  | _ => none }
def FnPathAcceptsWrongFalsely : Prop := fnPathAcceptsRow.holds Try.pinned (OpenSpec.ofChange fnPathAcceptsWrong)

/-- 'laws.FnReachedNodes': WHATEVER THE INPUT: true; the input reads as it did. -/
def fnReachedNodesSpec : ChangeSpec := { name := "fnReachedNodes", fn := fun _ => fun
  | [d] => { results := [.lit (.bool true)], args := [d] }
  | _ => none }
def fnReachedNodesRow : OpenClaim := { program := "ytlmhccjppmhdbaa", sum := "48d33f520275b3930910bd0a37aa38271527263aec4402370efe633d89a7f1a2", func := "loop.example/graphviews/laws.FnReachedNodes", spec := "fnReachedNodes", unfollowed := true, recurses := true, apart := false }
def FnReachedNodesSaid : Prop := fnReachedNodesRow.holds Try.pinned (OpenSpec.ofChange fnReachedNodesSpec)

/-- ITS FALSE NEIGHBOUR: 'it returns false'. Refute it at one input. -/
def fnReachedNodesWrong : ChangeSpec := { name := "fnReachedNodes", fn := fun _ => fun
  | [d] => { results := [.lit (.bool false)], args := [d] }
  | _ => none }
def FnReachedNodesWrongFalsely : Prop := fnReachedNodesRow.holds Try.pinned (OpenSpec.ofChange fnReachedNodesWrong)

/- THE SECOND FORM. 'bulk': how many values and letters a reading holds, each counted each time it is reached (what is shared counts as often as it is met; a slice's spare places count too). A statement '..UptoSaid' is the law's where the arguments, and the package variables that the reading takes, are together of bulk at most 1048576: NARROWER than '..Said'. Prove '..Said' where nothing that the law and all that it calls make is longer than what came in: it says more and counts as full. Else prove '..UptoSaid'. A law counts once. -/
mutual
def uptoBulk {H : Type} : DataW H → Nat
  | .lit (.string bytes) => bytes.length + 1
  | .lit _ => 1
  | .nil => 1
  | .ptr d => uptoBulk d + 1
  | .slice elems spare => uptoBulkAll elems + uptoBulkAll spare + 1
  | .agg parts => uptoBulkAll parts + 1
  | .iface _ d => uptoBulk d + 1
  | .map entries => uptoBulkEntries entries + 1
  | .held _ => 1
def uptoBulkAll {H : Type} : List (DataW H) → Nat
  | [] => 0
  | d :: r => uptoBulk d + uptoBulkAll r
def uptoBulkEntries {H : Type} : List (Lit × DataW H) → Nat
  | [] => 0
  | x :: r => uptoBulkEntry x + uptoBulkEntries r
def uptoBulkEntry {H : Type} : Lit × DataW H → Nat
  | (.string bytes, d) => bytes.length + uptoBulk d + 1
  | (_, d) => uptoBulk d + 1
 end
def uptoSmall : (H : Type) → List (DataW H) → Bool := fun _ ds => decide (uptoBulkAll ds ≤ 1048576)
def OpenSpec.upto (s : _root_.Go.ChangeSpec) : _root_.Go.OpenSpec := { _root_.Go.OpenSpec.ofChange s with cond := some uptoSmall }

/-- 'laws.FnExactBestFirst', WHERE WHAT IT READS IS OF BULK AT MOST 1048576: true; the input reads as it did. -/
def fnExactBestFirstUptoRow : OpenClaim := { program := "ytlmhccjppmhdbaa", sum := "48d33f520275b3930910bd0a37aa38271527263aec4402370efe633d89a7f1a2", func := "loop.example/graphviews/laws.FnExactBestFirst", spec := "fnExactBestFirst", unfollowed := true, recurses := true, apart := false, narrowed := true }
def FnExactBestFirstUptoSaid : Prop := fnExactBestFirstUptoRow.holds Try.pinned (OpenSpec.upto fnExactBestFirstSpec)

/-- 'laws.FnExactStopAt', WHERE WHAT IT READS IS OF BULK AT MOST 1048576: true; the input reads as it did. -/
def fnExactStopAtUptoRow : OpenClaim := { program := "ytlmhccjppmhdbaa", sum := "48d33f520275b3930910bd0a37aa38271527263aec4402370efe633d89a7f1a2", func := "loop.example/graphviews/laws.FnExactStopAt", spec := "fnExactStopAt", unfollowed := true, recurses := true, apart := false, narrowed := true }
def FnExactStopAtUptoSaid : Prop := fnExactStopAtUptoRow.holds Try.pinned (OpenSpec.upto fnExactStopAtSpec)

/-- 'laws.FnExactKeepView', WHERE WHAT IT READS IS OF BULK AT MOST 1048576: true; the input reads as it did. -/
def fnExactKeepViewUptoRow : OpenClaim := { program := "ytlmhccjppmhdbaa", sum := "48d33f520275b3930910bd0a37aa38271527263aec4402370efe633d89a7f1a2", func := "loop.example/graphviews/laws.FnExactKeepView", spec := "fnExactKeepView", unfollowed := true, recurses := true, apart := false, narrowed := true }
def FnExactKeepViewUptoSaid : Prop := fnExactKeepViewUptoRow.holds Try.pinned (OpenSpec.upto fnExactKeepViewSpec)

/-- 'laws.FnBestFirst', WHERE WHAT IT READS IS OF BULK AT MOST 1048576: true; the input reads as it did. -/
def fnBestFirstUptoRow : OpenClaim := { program := "ytlmhccjppmhdbaa", sum := "48d33f520275b3930910bd0a37aa38271527263aec4402370efe633d89a7f1a2", func := "loop.example/graphviews/laws.FnBestFirst", spec := "fnBestFirst", unfollowed := true, recurses := true, apart := false, narrowed := true }
def FnBestFirstUptoSaid : Prop := fnBestFirstUptoRow.holds Try.pinned (OpenSpec.upto fnBestFirstSpec)

/-- 'laws.FnStopAt', WHERE WHAT IT READS IS OF BULK AT MOST 1048576: true; the input reads as it did. -/
def fnStopAtUptoRow : OpenClaim := { program := "ytlmhccjppmhdbaa", sum := "48d33f520275b3930910bd0a37aa38271527263aec4402370efe633d89a7f1a2", func := "loop.example/graphviews/laws.FnStopAt", spec := "fnStopAt", unfollowed := true, recurses := true, apart := false, narrowed := true }
def FnStopAtUptoSaid : Prop := fnStopAtUptoRow.holds Try.pinned (OpenSpec.upto fnStopAtSpec)

/-- 'laws.FnSettledParents', WHERE WHAT IT READS IS OF BULK AT MOST 1048576: true; the input reads as it did. -/
def fnSettledParentsUptoRow : OpenClaim := { program := "ytlmhccjppmhdbaa", sum := "48d33f520275b3930910bd0a37aa38271527263aec4402370efe633d89a7f1a2", func := "loop.example/graphviews/laws.FnSettledParents", spec := "fnSettledParents", unfollowed := true, recurses := true, apart := false, narrowed := true }
def FnSettledParentsUptoSaid : Prop := fnSettledParentsUptoRow.holds Try.pinned (OpenSpec.upto fnSettledParentsSpec)

/-- 'laws.FnStopSource', WHERE WHAT IT READS IS OF BULK AT MOST 1048576: true; the input reads as it did. -/
def fnStopSourceUptoRow : OpenClaim := { program := "ytlmhccjppmhdbaa", sum := "48d33f520275b3930910bd0a37aa38271527263aec4402370efe633d89a7f1a2", func := "loop.example/graphviews/laws.FnStopSource", spec := "fnStopSource", unfollowed := true, recurses := true, apart := false, narrowed := true }
def FnStopSourceUptoSaid : Prop := fnStopSourceUptoRow.holds Try.pinned (OpenSpec.upto fnStopSourceSpec)

/-- 'laws.FnPathTo', WHERE WHAT IT READS IS OF BULK AT MOST 1048576: true; the input reads as it did. -/
def fnPathToUptoRow : OpenClaim := { program := "ytlmhccjppmhdbaa", sum := "48d33f520275b3930910bd0a37aa38271527263aec4402370efe633d89a7f1a2", func := "loop.example/graphviews/laws.FnPathTo", spec := "fnPathTo", unfollowed := true, recurses := true, apart := false, narrowed := true }
def FnPathToUptoSaid : Prop := fnPathToUptoRow.holds Try.pinned (OpenSpec.upto fnPathToSpec)

/-- 'laws.FnPathEdges', WHERE WHAT IT READS IS OF BULK AT MOST 1048576: true; the input reads as it did. -/
def fnPathEdgesUptoRow : OpenClaim := { program := "ytlmhccjppmhdbaa", sum := "48d33f520275b3930910bd0a37aa38271527263aec4402370efe633d89a7f1a2", func := "loop.example/graphviews/laws.FnPathEdges", spec := "fnPathEdges", unfollowed := true, recurses := true, apart := false, narrowed := true }
def FnPathEdgesUptoSaid : Prop := fnPathEdgesUptoRow.holds Try.pinned (OpenSpec.upto fnPathEdgesSpec)

/-- 'laws.FnPathAccepts', WHERE WHAT IT READS IS OF BULK AT MOST 1048576: true; the input reads as it did. -/
def fnPathAcceptsUptoRow : OpenClaim := { program := "ytlmhccjppmhdbaa", sum := "48d33f520275b3930910bd0a37aa38271527263aec4402370efe633d89a7f1a2", func := "loop.example/graphviews/laws.FnPathAccepts", spec := "fnPathAccepts", apart := false, narrowed := true }
def FnPathAcceptsUptoSaid : Prop := fnPathAcceptsUptoRow.holds Try.pinned (OpenSpec.upto fnPathAcceptsSpec)

/-- 'laws.FnReachedNodes', WHERE WHAT IT READS IS OF BULK AT MOST 1048576: true; the input reads as it did. -/
def fnReachedNodesUptoRow : OpenClaim := { program := "ytlmhccjppmhdbaa", sum := "48d33f520275b3930910bd0a37aa38271527263aec4402370efe633d89a7f1a2", func := "loop.example/graphviews/laws.FnReachedNodes", spec := "fnReachedNodes", unfollowed := true, recurses := true, apart := false, narrowed := true }
def FnReachedNodesUptoSaid : Prop := fnReachedNodesUptoRow.holds Try.pinned (OpenSpec.upto fnReachedNodesSpec)

end Rows
end Go.Proofs.Ytlmhccjppmhdbaa
