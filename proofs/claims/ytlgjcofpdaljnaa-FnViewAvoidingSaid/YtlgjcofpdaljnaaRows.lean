/-
  No cell of these rows narrows 'for every input' (looked for: loops, veiled, ifaces, maps, wideKeys, modest, calm, conditions, laid).
  DERIVED. THE GIVEN ROWS OF THIS SEAT. 5 by the template 'for every input the law returns true; each argument reads behind the call as it read before'; 0 by the template 'total and deterministic' (their statements: YtlgjcofpdaljnaaTotals.lean).
  GIVEN WITH THE SEED: the statements are not yours to turn. If you find one false, say at which input.
  Laid BY PROGRAM, IN A SANDBOX (cutbox-rows.mjs): the forced cells as the released guide's own fill.sh prints them over the translation 034f5744055bd5e2… (all of the seat's roots in one cut). By AI agents, Wed Nov 11 2026. No macro, syntax, notation, axiom, sorry.
-/
import Derived.Test.YtlgjcofpdaljnaaChecked
import GoSem.Claim
import GoSem.ClaimJoined
import GoSem.ClaimMapViews
import Derived.JoinedTies
import Derived.KernelRfl
namespace Go.Proofs.Ytlgjcofpdaljnaa
/- THE CELL 'sum', in the pinned program and in every row, IS THE sha256 OF THE DUMP (.gsa) THAT YtlgjcofpdaljnaaProg.lean LOADS. Nothing in Lean hashes anything: it is a label: what it is worth is what the hold of that sum in a sandbox is worth. -/
noncomputable def Try.pinned : Pinned := { name := "ytlgjcofpdaljnaa", sum := "034f5744055bd5e2943c39493b555f3b7e7d821c7782faa7a8ae66198303da5e", checked := Try.checked }
namespace Rows
def none {H : Type} : Left H := { results := [], args := [] }

/-- 'laws.FnRanksOf': WHATEVER THE INPUT: true; the input reads as it did. -/
def fnRanksOfSpec : ChangeSpec := { name := "fnRanksOf", fn := fun _ => fun
  | [d] => { results := [.lit (.bool true)], args := [d] }
  | _ => none }
def fnRanksOfRow : OpenClaim := { program := "ytlgjcofpdaljnaa", sum := "034f5744055bd5e2943c39493b555f3b7e7d821c7782faa7a8ae66198303da5e", func := "loop.example/graphviews/laws.FnRanksOf", spec := "fnRanksOf", unfollowed := true, recurses := true, apart := false }
def FnRanksOfSaid : Prop := fnRanksOfRow.holds Try.pinned (OpenSpec.ofChange fnRanksOfSpec)

/-- ITS FALSE NEIGHBOUR: 'it returns false'. Refute it at one input. -/
def fnRanksOfWrong : ChangeSpec := { name := "fnRanksOf", fn := fun _ => fun
  | [d] => { results := [.lit (.bool false)], args := [d] }
  | _ => none }
def FnRanksOfWrongFalsely : Prop := fnRanksOfRow.holds Try.pinned (OpenSpec.ofChange fnRanksOfWrong)

/-- 'laws.FnBoundRanks': WHATEVER THE INPUT: true; the input reads as it did. -/
def fnBoundRanksSpec : ChangeSpec := { name := "fnBoundRanks", fn := fun _ => fun
  | [d] => { results := [.lit (.bool true)], args := [d] }
  | _ => none }
def fnBoundRanksRow : OpenClaim := { program := "ytlgjcofpdaljnaa", sum := "034f5744055bd5e2943c39493b555f3b7e7d821c7782faa7a8ae66198303da5e", func := "loop.example/graphviews/laws.FnBoundRanks", spec := "fnBoundRanks", unfollowed := true, recurses := true, apart := false }
def FnBoundRanksSaid : Prop := fnBoundRanksRow.holds Try.pinned (OpenSpec.ofChange fnBoundRanksSpec)

/-- ITS FALSE NEIGHBOUR: 'it returns false'. Refute it at one input. -/
def fnBoundRanksWrong : ChangeSpec := { name := "fnBoundRanks", fn := fun _ => fun
  | [d] => { results := [.lit (.bool false)], args := [d] }
  | _ => none }
def FnBoundRanksWrongFalsely : Prop := fnBoundRanksRow.holds Try.pinned (OpenSpec.ofChange fnBoundRanksWrong)

/-- 'laws.FnViewAvoiding': WHATEVER THE INPUT: true; the input reads as it did. -/
def fnViewAvoidingSpec : ChangeSpec := { name := "fnViewAvoiding", fn := fun _ => fun
  | [d] => { results := [.lit (.bool true)], args := [d] }
  | _ => none }
def fnViewAvoidingRow : OpenClaim := { program := "ytlgjcofpdaljnaa", sum := "034f5744055bd5e2943c39493b555f3b7e7d821c7782faa7a8ae66198303da5e", func := "loop.example/graphviews/laws.FnViewAvoiding", spec := "fnViewAvoiding", unfollowed := true, recurses := true, apart := false }
def FnViewAvoidingSaid : Prop := fnViewAvoidingRow.holds Try.pinned (OpenSpec.ofChange fnViewAvoidingSpec)

/-- ITS FALSE NEIGHBOUR: 'it returns false'. Refute it at one input. -/
def fnViewAvoidingWrong : ChangeSpec := { name := "fnViewAvoiding", fn := fun _ => fun
  | [d] => { results := [.lit (.bool false)], args := [d] }
  | _ => none }
def FnViewAvoidingWrongFalsely : Prop := fnViewAvoidingRow.holds Try.pinned (OpenSpec.ofChange fnViewAvoidingWrong)

/-- 'laws.FnBridgeNodes': WHATEVER THE INPUT: true; the input reads as it did. -/
def fnBridgeNodesSpec : ChangeSpec := { name := "fnBridgeNodes", fn := fun _ => fun
  | [d] => { results := [.lit (.bool true)], args := [d] }
  | _ => none }
def fnBridgeNodesRow : OpenClaim := { program := "ytlgjcofpdaljnaa", sum := "034f5744055bd5e2943c39493b555f3b7e7d821c7782faa7a8ae66198303da5e", func := "loop.example/graphviews/laws.FnBridgeNodes", spec := "fnBridgeNodes", unfollowed := true, recurses := true, apart := false }
def FnBridgeNodesSaid : Prop := fnBridgeNodesRow.holds Try.pinned (OpenSpec.ofChange fnBridgeNodesSpec)

/-- ITS FALSE NEIGHBOUR: 'it returns false'. Refute it at one input. -/
def fnBridgeNodesWrong : ChangeSpec := { name := "fnBridgeNodes", fn := fun _ => fun
  | [d] => { results := [.lit (.bool false)], args := [d] }
  | _ => none }
def FnBridgeNodesWrongFalsely : Prop := fnBridgeNodesRow.holds Try.pinned (OpenSpec.ofChange fnBridgeNodesWrong)

/-- 'laws.FnCriticalEdges': WHATEVER THE INPUT: true; the input reads as it did. -/
def fnCriticalEdgesSpec : ChangeSpec := { name := "fnCriticalEdges", fn := fun _ => fun
  | [d] => { results := [.lit (.bool true)], args := [d] }
  | _ => none }
def fnCriticalEdgesRow : OpenClaim := { program := "ytlgjcofpdaljnaa", sum := "034f5744055bd5e2943c39493b555f3b7e7d821c7782faa7a8ae66198303da5e", func := "loop.example/graphviews/laws.FnCriticalEdges", spec := "fnCriticalEdges", unfollowed := true, recurses := true, apart := false }
def FnCriticalEdgesSaid : Prop := fnCriticalEdgesRow.holds Try.pinned (OpenSpec.ofChange fnCriticalEdgesSpec)

/-- ITS FALSE NEIGHBOUR: 'it returns false'. Refute it at one input. -/
def fnCriticalEdgesWrong : ChangeSpec := { name := "fnCriticalEdges", fn := fun _ => fun
  | [d] => { results := [.lit (.bool false)], args := [d] }
  | _ => none }
def FnCriticalEdgesWrongFalsely : Prop := fnCriticalEdgesRow.holds Try.pinned (OpenSpec.ofChange fnCriticalEdgesWrong)

/- THE SECOND FORM. 'bulk': how many values and letters a reading holds, each counted each time it is reached (what is shared counts as often as it is met; a slice's spare places count too). A statement '..UptoSaid' is the law's where the arguments, and the package variables that the reading takes, are together of bulk at most 1048576: NARROWER than '..Said'. Prove '..Said' where nothing that the law and all that it calls make is longer than what came in: it says more and counts as full. Else prove '..UptoSaid'. A law counts once. -/
mutual
def uptoBulk {H : Type} : DataW H → Nat
  | .lit (.string bytes) => bytes.length + 1
  | .lit _ => 1
  | .nil => 1
  | .ptr d => uptoBulk d + 1
  | .slice elems spare => uptoBulkAll elems + uptoBulkAll spare + 1
  | .agg parts => uptoBulkAll parts + 1
  | .iface _ d => uptoBulk d + 1
  | .map entries => uptoBulkEntries entries + 1
  | .held _ => 1
def uptoBulkAll {H : Type} : List (DataW H) → Nat
  | [] => 0
  | d :: r => uptoBulk d + uptoBulkAll r
def uptoBulkEntries {H : Type} : List (Lit × DataW H) → Nat
  | [] => 0
  | x :: r => uptoBulkEntry x + uptoBulkEntries r
def uptoBulkEntry {H : Type} : Lit × DataW H → Nat
  | (.string bytes, d) => bytes.length + uptoBulk d + 1
  | (_, d) => uptoBulk d + 1
 end
def uptoSmall : (H : Type) → List (DataW H) → Bool := fun _ ds => decide (uptoBulkAll ds ≤ 1048576)
def OpenSpec.upto (s : _root_.Go.ChangeSpec) : _root_.Go.OpenSpec := { _root_.Go.OpenSpec.ofChange s with cond := some uptoSmall }

/-- 'laws.FnRanksOf', WHERE WHAT IT READS IS OF BULK AT MOST 1048576: true; the input reads as it did. -/
def fnRanksOfUptoRow : OpenClaim := { program := "ytlgjcofpdaljnaa", sum := "034f5744055bd5e2943c39493b555f3b7e7d821c7782faa7a8ae66198303da5e", func := "loop.example/graphviews/laws.FnRanksOf", spec := "fnRanksOf", unfollowed := true, recurses := true, apart := false, narrowed := true }
def FnRanksOfUptoSaid : Prop := fnRanksOfUptoRow.holds Try.pinned (OpenSpec.upto fnRanksOfSpec)

/-- 'laws.FnBoundRanks', WHERE WHAT IT READS IS OF BULK AT MOST 1048576: true; the input reads as it did. -/
def fnBoundRanksUptoRow : OpenClaim := { program := "ytlgjcofpdaljnaa", sum := "034f5744055bd5e2943c39493b555f3b7e7d821c7782faa7a8ae66198303da5e", func := "loop.example/graphviews/laws.FnBoundRanks", spec := "fnBoundRanks", unfollowed := true, recurses := true, apart := false, narrowed := true }
def FnBoundRanksUptoSaid : Prop := fnBoundRanksUptoRow.holds Try.pinned (OpenSpec.upto fnBoundRanksSpec)

/-- 'laws.FnViewAvoiding', WHERE WHAT IT READS IS OF BULK AT MOST 1048576: true; the input reads as it did. -/
def fnViewAvoidingUptoRow : OpenClaim := { program := "ytlgjcofpdaljnaa", sum := "034f5744055bd5e2943c39493b555f3b7e7d821c7782faa7a8ae66198303da5e", func := "loop.example/graphviews/laws.FnViewAvoiding", spec := "fnViewAvoiding", unfollowed := true, recurses := true, apart := false, narrowed := true }
def FnViewAvoidingUptoSaid : Prop := fnViewAvoidingUptoRow.holds Try.pinned (OpenSpec.upto fnViewAvoidingSpec)

/-- 'laws.FnBridgeNodes', WHERE WHAT IT READS IS OF BULK AT MOST 1048576: true; the input reads as it did. -/
def fnBridgeNodesUptoRow : OpenClaim := { program := "ytlgjcofpdaljnaa", sum := "034f5744055bd5e2943c39493b555f3b7e7d821c7782faa7a8ae66198303da5e", func := "loop.example/graphviews/laws.FnBridgeNodes", spec := "fnBridgeNodes", unfollowed := true, recurses := true, apart := false, narrowed := true }
def FnBridgeNodesUptoSaid : Prop := fnBridgeNodesUptoRow.holds Try.pinned (OpenSpec.upto fnBridgeNodesSpec)

/-- 'laws.FnCriticalEdges', WHERE WHAT IT READS IS OF BULK AT MOST 1048576: true; the input reads as it did. -/
def fnCriticalEdgesUptoRow : OpenClaim := { program := "ytlgjcofpdaljnaa", sum := "034f5744055bd5e2943c39493b555f3b7e7d821c7782faa7a8ae66198303da5e", func := "loop.example/graphviews/laws.FnCriticalEdges", spec := "fnCriticalEdges", unfollowed := true, recurses := true, apart := false, narrowed := true }
def FnCriticalEdgesUptoSaid : Prop := fnCriticalEdgesUptoRow.holds Try.pinned (OpenSpec.upto fnCriticalEdgesSpec)

end Rows
end Go.Proofs.Ytlgjcofpdaljnaa
