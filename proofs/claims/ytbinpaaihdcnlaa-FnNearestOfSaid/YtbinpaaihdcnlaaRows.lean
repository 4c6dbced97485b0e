/-
  No cell of these rows narrows 'for every input' (looked for: loops, veiled, ifaces, maps, wideKeys, modest, calm, conditions, laid).
  DERIVED. THE GIVEN ROWS OF THIS SEAT. 11 by the template 'for every input the law returns true; each argument reads behind the call as it read before'; 0 by the template 'total and deterministic' (their statements: YtbinpaaihdcnlaaTotals.lean).
  GIVEN WITH THE SEED: the statements are not yours to turn. If you find one false, say at which input.
  Laid BY PROGRAM, IN A SANDBOX (cutbox-rows.mjs): the forced cells as the released guide's own fill.sh prints them over the translation 7a53a7ffa49e11cf… (all of the seat's roots in one cut). By AI agents, Wed Nov 11 2026. No macro, syntax, notation, axiom, sorry.
-/
import Derived.Test.YtbinpaaihdcnlaaChecked
import GoSem.Claim
import GoSem.ClaimJoined
import GoSem.ClaimMapViews
import Derived.JoinedTies
import Derived.KernelRfl
namespace Go.Proofs.Ytbinpaaihdcnlaa
/- THE CELL 'sum', in the pinned program and in every row, IS THE sha256 OF THE DUMP (.gsa) THAT YtbinpaaihdcnlaaProg.lean LOADS. Nothing in Lean hashes anything: it is a label: what it is worth is what the hold of that sum in a sandbox is worth. -/
noncomputable def Try.pinned : Pinned := { name := "ytbinpaaihdcnlaa", sum := "7a53a7ffa49e11cf57e6d0b972181c78e549e4c1cdd43f71655cf9f49f423218", checked := Try.checked }
namespace Rows
def none {H : Type} : Left H := { results := [], args := [] }

/-- 'laws.FnWithinBound': WHATEVER THE INPUT: true; the input reads as it did. -/
def fnWithinBoundSpec : ChangeSpec := { name := "fnWithinBound", fn := fun _ => fun
  | [d] => { results := [.lit (.bool true)], args := [d] }
  | _ => none }
def fnWithinBoundRow : OpenClaim := { program := "ytbinpaaihdcnlaa", sum := "7a53a7ffa49e11cf57e6d0b972181c78e549e4c1cdd43f71655cf9f49f423218", func := "loop.example/graphviews/laws.FnWithinBound", spec := "fnWithinBound", unfollowed := true, recurses := true, apart := false }
def FnWithinBoundSaid : Prop := fnWithinBoundRow.holds Try.pinned (OpenSpec.ofChange fnWithinBoundSpec)

/-- ITS FALSE NEIGHBOUR: 'it returns false'. Refute it at one input. -/
def fnWithinBoundWrong : ChangeSpec := { name := "fnWithinBound", fn := fun _ => fun
  | [d] => { results := [.lit (.bool false)], args := [d] }
  | _ => none }
def FnWithinBoundWrongFalsely : Prop := fnWithinBoundRow.holds Try.pinned (OpenSpec.ofChange fnWithinBoundWrong)

/-- 'laws.FnBoundRanks': WHATEVER THE INPUT: true; the input reads as it did. -/
def fnBoundRanksSpec : ChangeSpec := { name := "fnBoundRanks", fn := fun _ => fun
  | [d] => { results := [.lit (.bool true)], args := [d] }
  | _ => none }
def fnBoundRanksRow : OpenClaim := { program := "ytbinpaaihdcnlaa", sum := "7a53a7ffa49e11cf57e6d0b972181c78e549e4c1cdd43f71655cf9f49f423218", func := "loop.example/graphviews/laws.FnBoundRanks", spec := "fnBoundRanks", unfollowed := true, recurses := true, apart := false }
def FnBoundRanksSaid : Prop := fnBoundRanksRow.holds Try.pinned (OpenSpec.ofChange fnBoundRanksSpec)

/-- ITS FALSE NEIGHBOUR: 'it returns false'. Refute it at one input. -/
def fnBoundRanksWrong : ChangeSpec := { name := "fnBoundRanks", fn := fun _ => fun
  | [d] => { results := [.lit (.bool false)], args := [d] }
  | _ => none }
def FnBoundRanksWrongFalsely : Prop := fnBoundRanksRow.holds Try.pinned (OpenSpec.ofChange fnBoundRanksWrong)

/-- 'laws.FnNearestOne': WHATEVER THE INPUT: true; the input reads as it did. -/
def fnNearestOneSpec : ChangeSpec := { name := "fnNearestOne", fn := fun _ => fun
  | [d] => { results := [.lit (.bool true)], args := [d] }
  | _ => none }
def fnNearestOneRow : OpenClaim := { program := "ytbinpaaihdcnlaa", sum := "7a53a7ffa49e11cf57e6d0b972181c78e549e4c1cdd43f71655cf9f49f423218", func := "loop.example/graphviews/laws.FnNearestOne", spec := "fnNearestOne", unfollowed := true, recurses := true, apart := false }
def FnNearestOneSaid : Prop := fnNearestOneRow.holds Try.pinned (OpenSpec.ofChange fnNearestOneSpec)

/-- ITS FALSE NEIGHBOUR: 'it returns false'. Refute it at one input. -/
def fnNearestOneWrong : ChangeSpec := { name := "fnNearestOne", fn := fun _ => fun
  | [d] => { results := [.lit (.bool false)], args := [d] }
  | _ => none }
def FnNearestOneWrongFalsely : Prop := fnNearestOneRow.holds Try.pinned (OpenSpec.ofChange fnNearestOneWrong)

/-- 'laws.FnNearestOf': WHATEVER THE INPUT: true; the input reads as it did. -/
def fnNearestOfSpec : ChangeSpec := { name := "fnNearestOf", fn := fun _ => fun
  | [d] => { results := [.lit (.bool true)], args := [d] }
  | _ => none }
def fnNearestOfRow : OpenClaim := { program := "ytbinpaaihdcnlaa", sum := "7a53a7ffa49e11cf57e6d0b972181c78e549e4c1cdd43f71655cf9f49f423218", func := "loop.example/graphviews/laws.FnNearestOf", spec := "fnNearestOf", unfollowed := true, recurses := true, apart := false }
def FnNearestOfSaid : Prop := fnNearestOfRow.holds Try.pinned (OpenSpec.ofChange fnNearestOfSpec)

/-- ITS FALSE NEIGHBOUR: 'it returns false'. Refute it at one input. -/
def fnNearestOfWrong : ChangeSpec := { name := "fnNearestOf", fn := fun _ => fun
  | [d] => { results := [.lit (.bool false)], args := [d] }
  | _ => none }
def FnNearestOfWrongFalsely : Prop := fnNearestOfRow.holds Try.pinned (OpenSpec.ofChange fnNearestOfWrong)

/-- 'laws.FnViewAvoiding': WHATEVER THE INPUT: true; the input reads as it did. -/
def fnViewAvoidingSpec : ChangeSpec := { name := "fnViewAvoiding", fn := fun _ => fun
  | [d] => { results := [.lit (.bool true)], args := [d] }
  | _ => none }
def fnViewAvoidingRow : OpenClaim := { program := "ytbinpaaihdcnlaa", sum := "7a53a7ffa49e11cf57e6d0b972181c78e549e4c1cdd43f71655cf9f49f423218", func := "loop.example/graphviews/laws.FnViewAvoiding", spec := "fnViewAvoiding", unfollowed := true, recurses := true, apart := false }
def FnViewAvoidingSaid : Prop := fnViewAvoidingRow.holds Try.pinned (OpenSpec.ofChange fnViewAvoidingSpec)

/-- ITS FALSE NEIGHBOUR: 'it returns false'. Refute it at one input. -/
def fnViewAvoidingWrong : ChangeSpec := { name := "fnViewAvoiding", fn := fun _ => fun
  | [d] => { results := [.lit (.bool false)], args := [d] }
  | _ => none }
def FnViewAvoidingWrongFalsely : Prop := fnViewAvoidingRow.holds Try.pinned (OpenSpec.ofChange fnViewAvoidingWrong)

/-- 'laws.FnRanksOf': WHATEVER THE INPUT: true; the input reads as it did. -/
def fnRanksOfSpec : ChangeSpec := { name := "fnRanksOf", fn := fun _ => fun
  | [d] => { results := [.lit (.bool true)], args := [d] }
  | _ => none }
def fnRanksOfRow : OpenClaim := { program := "ytbinpaaihdcnlaa", sum := "7a53a7ffa49e11cf57e6d0b972181c78e549e4c1cdd43f71655cf9f49f423218", func := "loop.example/graphviews/laws.FnRanksOf", spec := "fnRanksOf", unfollowed := true, recurses := true, apart := false }
def FnRanksOfSaid : Prop := fnRanksOfRow.holds Try.pinned (OpenSpec.ofChange fnRanksOfSpec)

/-- ITS FALSE NEIGHBOUR: 'it returns false'. Refute it at one input. -/
def fnRanksOfWrong : ChangeSpec := { name := "fnRanksOf", fn := fun _ => fun
  | [d] => { results := [.lit (.bool false)], args := [d] }
  | _ => none }
def FnRanksOfWrongFalsely : Prop := fnRanksOfRow.holds Try.pinned (OpenSpec.ofChange fnRanksOfWrong)

/-- 'laws.FnBridgeNodes': WHATEVER THE INPUT: true; the input reads as it did. -/
def fnBridgeNodesSpec : ChangeSpec := { name := "fnBridgeNodes", fn := fun _ => fun
  | [d] => { results := [.lit (.bool true)], args := [d] }
  | _ => none }
def fnBridgeNodesRow : OpenClaim := { program := "ytbinpaaihdcnlaa", sum := "7a53a7ffa49e11cf57e6d0b972181c78e549e4c1cdd43f71655cf9f49f423218", func := "loop.example/graphviews/laws.FnBridgeNodes", spec := "fnBridgeNodes", unfollowed := true, recurses := true, apart := false }
def FnBridgeNodesSaid : Prop := fnBridgeNodesRow.holds Try.pinned (OpenSpec.ofChange fnBridgeNodesSpec)

/-- ITS FALSE NEIGHBOUR: 'it returns false'. Refute it at one input. -/
def fnBridgeNodesWrong : ChangeSpec := { name := "fnBridgeNodes", fn := fun _ => fun
  | [d] => { results := [.lit (.bool false)], args := [d] }
  | _ => none }
def FnBridgeNodesWrongFalsely : Prop := fnBridgeNodesRow.holds Try.pinned (OpenSpec.ofChange fnBridgeNodesWrong)

/-- 'laws.FnBridgeCut': WHATEVER THE INPUT: true; the input reads as it did. -/
def fnBridgeCutSpec : ChangeSpec := { name := "fnBridgeCut", fn := fun _ => fun
  | [d] => { results := [.lit (.bool true)], args := [d] }
  | _ => none }
def fnBridgeCutRow : OpenClaim := { program := "ytbinpaaihdcnlaa", sum := "7a53a7ffa49e11cf57e6d0b972181c78e549e4c1cdd43f71655cf9f49f423218", func := "loop.example/graphviews/laws.FnBridgeCut", spec := "fnBridgeCut", unfollowed := true, recurses := true, apart := false }
def FnBridgeCutSaid : Prop := fnBridgeCutRow.holds Try.pinned (OpenSpec.ofChange fnBridgeCutSpec)

/-- ITS FALSE NEIGHBOUR: 'it returns false'. Refute it at one input. -/
def fnBridgeCutWrong : ChangeSpec := { name := "fnBridgeCut", fn := fun _ => fun
  | [d] => { results := [.lit (.bool false)], args := [d] }
  | _ => none }
def FnBridgeCutWrongFalsely : Prop := fnBridgeCutRow.holds Try.pinned (OpenSpec.ofChange fnBridgeCutWrong)

/-- 'laws.FnCriticalEdges': WHATEVER THE INPUT: true; the input reads as it did. -/
def fnCriticalEdgesSpec : ChangeSpec := { name := "fnCriticalEdges", fn := fun _ => fun
  | [d] => { results := [.lit (.bool true)], args := [d] }
  | _ => none }
def fnCriticalEdgesRow : OpenClaim := { program := "ytbinpaaihdcnlaa", sum := "7a53a7ffa49e11cf57e6d0b972181c78e549e4c1cdd43f71655cf9f49f423218", func := "loop.example/graphviews/laws.FnCriticalEdges", spec := "fnCriticalEdges", unfollowed := true, recurses := true, apart := false }
def FnCriticalEdgesSaid : Prop := fnCriticalEdgesRow.holds Try.pinned (OpenSpec.ofChange fnCriticalEdgesSpec)

/-- ITS FALSE NEIGHBOUR: 'it returns false'. Refute it at one input. -/
def fnCriticalEdgesWrong : ChangeSpec := { name := "fnCriticalEdges", fn := fun _ => fun
  | [d] => { results := [.lit (.bool false)], args := [d] }
  | _ => none }
def FnCriticalEdgesWrongFalsely : Prop := fnCriticalEdgesRow.holds Try.pinned (OpenSpec.ofChange fnCriticalEdgesWrong)

/-- 'laws.FnCriticalCut': WHATEVER THE INPUT: true; the input reads as it did. -/
def fnCriticalCutSpec : ChangeSpec := { name := "fnCriticalCut", fn := fun _ => fun
  | [d] => { results := [.lit (.bool true)], args := [d] }
  | _ => none }
def fnCriticalCutRow : OpenClaim := { program := "ytbinpaaihdcnlaa", sum := "7a53a7ffa49e11cf57e6d0b972181c78e549e4c1cdd43f71655cf9f49f423218", func := "loop.example/graphviews/laws.FnCriticalCut", spec := "fnCriticalCut", unfollowed := true, recurses := true, apart := false }
def FnCriticalCutSaid : Prop := fnCriticalCutRow.holds Try.pinned (OpenSpec.ofChange fnCriticalCutSpec)

/-- ITS FALSE NEIGHBOUR: 'it returns false'. Refute it at one input. -/
def fnCriticalCutWrong : ChangeSpec := { name := "fnCriticalCut", fn := fun _ => fun
  | [d] => { results := [.lit (.bool false)], args := [d] }
  | _ => none }
def FnCriticalCutWrongFalsely : Prop := fnCriticalCutRow.holds Try.pinned (OpenSpec.ofChange fnCriticalCutWrong)

/-- 'laws.FnViewSame': WHATEVER THE INPUT: true; the input reads as it did. -/
def fnViewSameSpec : ChangeSpec := { name := "fnViewSame", fn := fun _ => fun
  | [d] => { results := [.lit (.bool true)], args := [d] }
  | _ => none }
def fnViewSameRow : OpenClaim := { program := "ytbinpaaihdcnlaa", sum := "7a53a7ffa49e11cf57e6d0b972181c78e549e4c1cdd43f71655cf9f49f423218", func := "loop.example/graphviews/laws.FnViewSame", spec := "fnViewSame", apart := false }
def FnViewSameSaid : Prop := fnViewSameRow.holds Try.pinned (OpenSpec.ofChange fnViewSameSpec)

/-- ITS FALSE NEIGHBOUR: 'it returns false'. Refute it at one input. -/
def fnViewSameWrong : ChangeSpec := { name := "fnViewSame", fn := fun _ => fun
  | [d] => { results := [.lit (.bool false)], args := [d] }
  | _ => none }
def FnViewSameWrongFalsely : Prop := fnViewSameRow.holds Try.pinned (OpenSpec.ofChange fnViewSameWrong)

/- THE SECOND FORM. 'bulk': how many values and letters a reading holds, each counted each time it is reached (what is shared counts as often as it is met; a slice's spare places count too). A statement '..UptoSaid' is the law's where the arguments, and the package variables that the reading takes, are together of bulk at most 1048576: NARROWER than '..Said'. Prove '..Said' where nothing that the law and all that it calls make is longer than what came in: it says more and counts as full. Else prove '..UptoSaid'. A law counts once. -/
mutual
def uptoBulk {H : Type} : DataW H → Nat
  | .lit (.string bytes) => bytes.length + 1
  | .lit _ => 1
  | .nil => 1
  | .ptr d => uptoBulk d + 1
  | .slice elems spare => uptoBulkAll elems + uptoBulkAll spare + 1
  | .agg parts => uptoBulkAll parts + 1
  | .iface _ d => uptoBulk d + 1
  | .map entries => uptoBulkEntries entries + 1
  | .held _ => 1
def uptoBulkAll {H : Type} : List (DataW H) → Nat
  | [] => 0
  | d :: r => uptoBulk d + uptoBulkAll r
def uptoBulkEntries {H : Type} : List (Lit × DataW H) → Nat
  | [] => 0
  | x :: r => uptoBulkEntry x + uptoBulkEntries r
def uptoBulkEntry {H : Type} : Lit × DataW H → Nat
  | (.string bytes, d) => bytes.length + uptoBulk d + 1
  | (_, d) => uptoBulk d + 1
 end
def uptoSmall : (H : Type) → List (DataW H) → Bool := fun _ ds => decide (uptoBulkAll ds ≤ 1048576)
def OpenSpec.upto (s : _root_.Go.ChangeSpec) : _root_.Go.OpenSpec := { _root_.Go.OpenSpec.ofChange s with cond := some uptoSmall }

/-- 'laws.FnWithinBound', WHERE WHAT IT READS IS OF BULK AT MOST 1048576: true; the input reads as it did. -/
def fnWithinBoundUptoRow : OpenClaim := { program := "ytbinpaaihdcnlaa", sum := "7a53a7ffa49e11cf57e6d0b972181c78e549e4c1cdd43f71655cf9f49f423218", func := "loop.example/graphviews/laws.FnWithinBound", spec := "fnWithinBound", unfollowed := true, recurses := true, apart := false, narrowed := true }
def FnWithinBoundUptoSaid : Prop := fnWithinBoundUptoRow.holds Try.pinned (OpenSpec.upto fnWithinBoundSpec)

/-- 'laws.FnBoundRanks', WHERE WHAT IT READS IS OF BULK AT MOST 1048576: true; the input reads as it did. -/
def fnBoundRanksUptoRow : OpenClaim := { program := "ytbinpaaihdcnlaa", sum := "7a53a7ffa49e11cf57e6d0b972181c78e549e4c1cdd43f71655cf9f49f423218", func := "loop.example/graphviews/laws.FnBoundRanks", spec := "fnBoundRanks", unfollowed := true, recurses := true, apart := false, narrowed := true }
def FnBoundRanksUptoSaid : Prop := fnBoundRanksUptoRow.holds Try.pinned (OpenSpec.upto fnBoundRanksSpec)

/-- 'laws.FnNearestOne', WHERE WHAT IT READS IS OF BULK AT MOST 1048576: true; the input reads as it did. -/
def fnNearestOneUptoRow : OpenClaim := { program := "ytbinpaaihdcnlaa", sum := "7a53a7ffa49e11cf57e6d0b972181c78e549e4c1cdd43f71655cf9f49f423218", func := "loop.example/graphviews/laws.FnNearestOne", spec := "fnNearestOne", unfollowed := true, recurses := true, apart := false, narrowed := true }
def FnNearestOneUptoSaid : Prop := fnNearestOneUptoRow.holds Try.pinned (OpenSpec.upto fnNearestOneSpec)

/-- 'laws.FnNearestOf', WHERE WHAT IT READS IS OF BULK AT MOST 1048576: true; the input reads as it did. -/
def fnNearestOfUptoRow : OpenClaim := { program := "ytbinpaaihdcnlaa", sum := "7a53a7ffa49e11cf57e6d0b972181c78e549e4c1cdd43f71655cf9f49f423218", func := "loop.example/graphviews/laws.FnNearestOf", spec := "fnNearestOf", unfollowed := true, recurses := true, apart := false, narrowed := true }
def FnNearestOfUptoSaid : Prop := fnNearestOfUptoRow.holds Try.pinned (OpenSpec.upto fnNearestOfSpec)

/-- 'laws.FnViewAvoiding', WHERE WHAT IT READS IS OF BULK AT MOST 1048576: true; the input reads as it did. -/
def fnViewAvoidingUptoRow : OpenClaim := { program := "ytbinpaaihdcnlaa", sum := "7a53a7ffa49e11cf57e6d0b972181c78e549e4c1cdd43f71655cf9f49f423218", func := "loop.example/graphviews/laws.FnViewAvoiding", spec := "fnViewAvoiding", unfollowed := true, recurses := true, apart := false, narrowed := true }
def FnViewAvoidingUptoSaid : Prop := fnViewAvoidingUptoRow.holds Try.pinned (OpenSpec.upto fnViewAvoidingSpec)

/-- 'laws.FnRanksOf', WHERE WHAT IT READS IS OF BULK AT MOST 1048576: true; the input reads as it did. -/
def fnRanksOfUptoRow : OpenClaim := { program := "ytbinpaaihdcnlaa", sum := "7a53a7ffa49e11cf57e6d0b972181c78e549e4c1cdd43f71655cf9f49f423218", func := "loop.example/graphviews/laws.FnRanksOf", spec := "fnRanksOf", unfollowed := true, recurses := true, apart := false, narrowed := true }
def FnRanksOfUptoSaid : Prop := fnRanksOfUptoRow.holds Try.pinned (OpenSpec.upto fnRanksOfSpec)

/-- 'laws.FnBridgeNodes', WHERE WHAT IT READS IS OF BULK AT MOST 1048576: true; the input reads as it did. -/
def fnBridgeNodesUptoRow : OpenClaim := { program := "ytbinpaaihdcnlaa", sum := "7a53a7ffa49e11cf57e6d0b972181c78e549e4c1cdd43f71655cf9f49f423218", func := "loop.example/graphviews/laws.FnBridgeNodes", spec := "fnBridgeNodes", unfollowed := true, recurses := true, apart := false, narrowed := true }
def FnBridgeNodesUptoSaid : Prop := fnBridgeNodesUptoRow.holds Try.pinned (OpenSpec.upto fnBridgeNodesSpec)

/-- 'laws.FnBridgeCut', WHERE WHAT IT READS IS OF BULK AT MOST 1048576: true; the input reads as it did. -/
def fnBridgeCutUptoRow : OpenClaim := { program := "ytbinpaaihdcnlaa", sum := "7a53a7ffa49e11cf57e6d0b972181c78e549e4c1cdd43f71655cf9f49f423218", func := "loop.example/graphviews/laws.FnBridgeCut", spec := "fnBridgeCut", unfollowed := true, recurses := true, apart := false, narrowed := true }
def FnBridgeCutUptoSaid : Prop := fnBridgeCutUptoRow.holds Try.pinned (OpenSpec.upto fnBridgeCutSpec)

/-- 'laws.FnCriticalEdges', WHERE WHAT IT READS IS OF BULK AT MOST 1048576: true; the input reads as it did. -/
def fnCriticalEdgesUptoRow : OpenClaim := { program := "ytbinpaaihdcnlaa", sum := "7a53a7ffa49e11cf57e6d0b972181c78e549e4c1cdd43f71655cf9f49f423218", func := "loop.example/graphviews/laws.FnCriticalEdges", spec := "fnCriticalEdges", unfollowed := true, recurses := true, apart := false, narrowed := true }
def FnCriticalEdgesUptoSaid : Prop := fnCriticalEdgesUptoRow.holds Try.pinned (OpenSpec.upto fnCriticalEdgesSpec)

/-- 'laws.FnCriticalCut', WHERE WHAT IT READS IS OF BULK AT MOST 1048576: true; the input reads as it did. -/
def fnCriticalCutUptoRow : OpenClaim := { program := "ytbinpaaihdcnlaa", sum := "7a53a7ffa49e11cf57e6d0b972181c78e549e4c1cdd43f71655cf9f49f423218", func := "loop.example/graphviews/laws.FnCriticalCut", spec := "fnCriticalCut", unfollowed := true, recurses := true, apart := false, narrowed := true }
def FnCriticalCutUptoSaid : Prop := fnCriticalCutUptoRow.holds Try.pinned (OpenSpec.upto fnCriticalCutSpec)

/-- 'laws.FnViewSame', WHERE WHAT IT READS IS OF BULK AT MOST 1048576: true; the input reads as it did. -/
def fnViewSameUptoRow : OpenClaim := { program := "ytbinpaaihdcnlaa", sum := "7a53a7ffa49e11cf57e6d0b972181c78e549e4c1cdd43f71655cf9f49f423218", func := "loop.example/graphviews/laws.FnViewSame", spec := "fnViewSame", apart := false, narrowed := true }
def FnViewSameUptoSaid : Prop := fnViewSameUptoRow.holds Try.pinned (OpenSpec.upto fnViewSameSpec)

end Rows
end Go.Proofs.Ytbinpaaihdcnlaa
