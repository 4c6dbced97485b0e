/-
  No cell of these rows narrows 'for every input' (looked for: loops, veiled, ifaces, maps, wideKeys, modest, calm, conditions, laid).
  DERIVED. THE GIVEN ROWS OF THIS SEAT. 12 by the template 'for every input the law returns true; each argument reads behind the call as it read before'; 0 by the template 'total and deterministic' (their statements: YtjpikbbpmbeckaaTotals.lean).
  GIVEN WITH THE SEED: the statements are not yours to turn. If you find one false, say at which input.
  Laid BY PROGRAM, IN A SANDBOX (cutbox-rows.mjs): the forced cells as the released guide's own fill.sh prints them over the translation 46c46710d1d1004b… (all of the seat's roots in one cut). By AI agents, Wed Nov 11 2026. No macro, syntax, notation, axiom, sorry.
-/
import Derived.Test.YtjpikbbpmbeckaaChecked
import GoSem.Claim
import GoSem.ClaimJoined
import GoSem.ClaimMapViews
import Derived.JoinedTies
import Derived.KernelRfl
namespace Go.Proofs.Ytjpikbbpmbeckaa
/- THE CELL 'sum', in the pinned program and in every row, IS THE sha256 OF THE DUMP (.gsa) THAT YtjpikbbpmbeckaaProg.lean LOADS. Nothing in Lean hashes anything: it is a label: what it is worth is what the hold of that sum in a sandbox is worth. -/
noncomputable def Try.pinned : Pinned := { name := "ytjpikbbpmbeckaa", sum := "46c46710d1d1004ba61f8870c0b6cf3c225f396b0086873cb8eb4a41417f6495", checked := Try.checked }
namespace Rows
def none {H : Type} : Left H := { results := [], args := [] }

/-- 'laws.FnViewSame': WHATEVER THE INPUT: true; the input reads as it did. -/
def fnViewSameSpec : ChangeSpec := { name := "fnViewSame", fn := fun _ => fun
  | [d] => { results := [.lit (.bool true)], args := [d] }
  | _ => none }
def fnViewSameRow : OpenClaim := { program := "ytjpikbbpmbeckaa", sum := "46c46710d1d1004ba61f8870c0b6cf3c225f396b0086873cb8eb4a41417f6495", func := "loop.example/graphviews/laws.FnViewSame", spec := "fnViewSame", apart := false }
def FnViewSameSaid : Prop := fnViewSameRow.holds Try.pinned (OpenSpec.ofChange fnViewSameSpec)

/-- ITS FALSE NEIGHBOUR: 'it returns false'. Refute it at one input. -/
def fnViewSameWrong : ChangeSpec := { name := "fnViewSame", fn := fun _ => fun
  | [d] => { results := [.lit (.bool false)], args := [d] }
  | _ => none }
def FnViewSameWrongFalsely : Prop := fnViewSameRow.holds Try.pinned (OpenSpec.ofChange fnViewSameWrong)

/-- 'laws.FnWorstOf': WHATEVER THE INPUT: true; the input reads as it did. -/
def fnWorstOfSpec : ChangeSpec := { name := "fnWorstOf", fn := fun _ => fun
  | [d] => { results := [.lit (.bool true)], args := [d] }
  | _ => none }
def fnWorstOfRow : OpenClaim := { program := "ytjpikbbpmbeckaa", sum := "46c46710d1d1004ba61f8870c0b6cf3c225f396b0086873cb8eb4a41417f6495", func := "loop.example/graphviews/laws.FnWorstOf", spec := "fnWorstOf", unfollowed := true, recurses := true, apart := false }
def FnWorstOfSaid : Prop := fnWorstOfRow.holds Try.pinned (OpenSpec.ofChange fnWorstOfSpec)

/-- ITS FALSE NEIGHBOUR: 'it returns false'. Refute it at one input. -/
def fnWorstOfWrong : ChangeSpec := { name := "fnWorstOf", fn := fun _ => fun
  | [d] => { results := [.lit (.bool false)], args := [d] }
  | _ => none }
def FnWorstOfWrongFalsely : Prop := fnWorstOfRow.holds Try.pinned (OpenSpec.ofChange fnWorstOfWrong)

/-- 'laws.FnCenterOf': WHATEVER THE INPUT: true; the input reads as it did. -/
def fnCenterOfSpec : ChangeSpec := { name := "fnCenterOf", fn := fun _ => fun
  | [d] => { results := [.lit (.bool true)], args := [d] }
  | _ => none }
def fnCenterOfRow : OpenClaim := { program := "ytjpikbbpmbeckaa", sum := "46c46710d1d1004ba61f8870c0b6cf3c225f396b0086873cb8eb4a41417f6495", func := "loop.example/graphviews/laws.FnCenterOf", spec := "fnCenterOf", unfollowed := true, recurses := true, apart := false }
def FnCenterOfSaid : Prop := fnCenterOfRow.holds Try.pinned (OpenSpec.ofChange fnCenterOfSpec)

/-- ITS FALSE NEIGHBOUR: 'it returns false'. Refute it at one input. -/
def fnCenterOfWrong : ChangeSpec := { name := "fnCenterOf", fn := fun _ => fun
  | [d] => { results := [.lit (.bool false)], args := [d] }
  | _ => none }
def FnCenterOfWrongFalsely : Prop := fnCenterOfRow.holds Try.pinned (OpenSpec.ofChange fnCenterOfWrong)

/-- 'laws.FnTimesGroups': WHATEVER THE INPUT: true; the input reads as it did. -/
def fnTimesGroupsSpec : ChangeSpec := { name := "fnTimesGroups", fn := fun _ => fun
  | [d] => { results := [.lit (.bool true)], args := [d] }
  | _ => none }
def fnTimesGroupsRow : OpenClaim := { program := "ytjpikbbpmbeckaa", sum := "46c46710d1d1004ba61f8870c0b6cf3c225f396b0086873cb8eb4a41417f6495", func := "loop.example/graphviews/laws.FnTimesGroups", spec := "fnTimesGroups", unfollowed := true, recurses := true, apart := false }
def FnTimesGroupsSaid : Prop := fnTimesGroupsRow.holds Try.pinned (OpenSpec.ofChange fnTimesGroupsSpec)

/-- ITS FALSE NEIGHBOUR: 'it returns false'. Refute it at one input. -/
def fnTimesGroupsWrong : ChangeSpec := { name := "fnTimesGroups", fn := fun _ => fun
  | [d] => { results := [.lit (.bool false)], args := [d] }
  | _ => none }
def FnTimesGroupsWrongFalsely : Prop := fnTimesGroupsRow.holds Try.pinned (OpenSpec.ofChange fnTimesGroupsWrong)

/-- 'laws.FnEdgeMatrix': WHATEVER THE INPUT: true; the input reads as it did. -/
def fnEdgeMatrixSpec : ChangeSpec := { name := "fnEdgeMatrix", fn := fun _ => fun
  | [d] => { results := [.lit (.bool true)], args := [d] }
  | _ => none }
def fnEdgeMatrixRow : OpenClaim := { program := "ytjpikbbpmbeckaa", sum := "46c46710d1d1004ba61f8870c0b6cf3c225f396b0086873cb8eb4a41417f6495", func := "loop.example/graphviews/laws.FnEdgeMatrix", spec := "fnEdgeMatrix", unfollowed := true, recurses := true, apart := false }
def FnEdgeMatrixSaid : Prop := fnEdgeMatrixRow.holds Try.pinned (OpenSpec.ofChange fnEdgeMatrixSpec)

/-- ITS FALSE NEIGHBOUR: 'it returns false'. Refute it at one input. -/
def fnEdgeMatrixWrong : ChangeSpec := { name := "fnEdgeMatrix", fn := fun _ => fun
  | [d] => { results := [.lit (.bool false)], args := [d] }
  | _ => none }
def FnEdgeMatrixWrongFalsely : Prop := fnEdgeMatrixRow.holds Try.pinned (OpenSpec.ofChange fnEdgeMatrixWrong)

/-- 'laws.FnTimesMatrix': WHATEVER THE INPUT: true; the input reads as it did. -/
def fnTimesMatrixSpec : ChangeSpec := { name := "fnTimesMatrix", fn := fun _ => fun
  | [d1, d2] => { results := [.lit (.bool true)], args := [d1, d2] }
  | _ => none }
def fnTimesMatrixRow : OpenClaim := { program := "ytjpikbbpmbeckaa", sum := "46c46710d1d1004ba61f8870c0b6cf3c225f396b0086873cb8eb4a41417f6495", func := "loop.example/graphviews/laws.FnTimesMatrix", spec := "fnTimesMatrix", unfollowed := true, recurses := true, apart := false }
def FnTimesMatrixSaid : Prop := fnTimesMatrixRow.holds Try.pinned (OpenSpec.ofChange fnTimesMatrixSpec)

/-- ITS FALSE NEIGHBOUR: 'it returns false'. Refute it at one input. -/
def fnTimesMatrixWrong : ChangeSpec := { name := "fnTimesMatrix", fn := fun _ => fun
  | [d1, d2] => { results := [.lit (.bool false)], args := [d1, d2] }
  | _ => none }
def FnTimesMatrixWrongFalsely : Prop := fnTimesMatrixRow.holds Try.pinned (OpenSpec.ofChange fnTimesMatrixWrong)

/-- 'laws.FnAllPairs': WHATEVER THE INPUT: true; the input reads as it did. -/
def fnAllPairsSpec : ChangeSpec := { name := "fnAllPairs", fn := fun _ => fun
  | [d] => { results := [.lit (.bool true)], args := [d] }
  | _ => none }
def fnAllPairsRow : OpenClaim := { program := "ytjpikbbpmbeckaa", sum := "46c46710d1d1004ba61f8870c0b6cf3c225f396b0086873cb8eb4a41417f6495", func := "loop.example/graphviews/laws.FnAllPairs", spec := "fnAllPairs", unfollowed := true, recurses := true, apart := false }
def FnAllPairsSaid : Prop := fnAllPairsRow.holds Try.pinned (OpenSpec.ofChange fnAllPairsSpec)

/-- ITS FALSE NEIGHBOUR: 'it returns false'. Refute it at one input. -/
def fnAllPairsWrong : ChangeSpec := { name := "fnAllPairs", fn := fun _ => fun
  | [d] => { results := [.lit (.bool false)], args := [d] }
  | _ => none }
def FnAllPairsWrongFalsely : Prop := fnAllPairsRow.holds Try.pinned (OpenSpec.ofChange fnAllPairsWrong)

/-- 'laws.FnTimesClose': WHATEVER THE INPUT: true; the input reads as it did. -/
def fnTimesCloseSpec : ChangeSpec := { name := "fnTimesClose", fn := fun _ => fun
  | [d] => { results := [.lit (.bool true)], args := [d] }
  | _ => none }
def fnTimesCloseRow : OpenClaim := { program := "ytjpikbbpmbeckaa", sum := "46c46710d1d1004ba61f8870c0b6cf3c225f396b0086873cb8eb4a41417f6495", func := "loop.example/graphviews/laws.FnTimesClose", spec := "fnTimesClose", unfollowed := true, recurses := true, apart := false }
def FnTimesCloseSaid : Prop := fnTimesCloseRow.holds Try.pinned (OpenSpec.ofChange fnTimesCloseSpec)

/-- ITS FALSE NEIGHBOUR: 'it returns false'. Refute it at one input. -/
def fnTimesCloseWrong : ChangeSpec := { name := "fnTimesClose", fn := fun _ => fun
  | [d] => { results := [.lit (.bool false)], args := [d] }
  | _ => none }
def FnTimesCloseWrongFalsely : Prop := fnTimesCloseRow.holds Try.pinned (OpenSpec.ofChange fnTimesCloseWrong)

/-- 'laws.FnPutPair': WHATEVER THE INPUT: true; the input reads as it did. -/
def fnPutPairSpec : ChangeSpec := { name := "fnPutPair", fn := fun _ => fun
  | [d1, d2] => { results := [.lit (.bool true)], args := [d1, d2] }
  | _ => none }
def fnPutPairRow : OpenClaim := { program := "ytjpikbbpmbeckaa", sum := "46c46710d1d1004ba61f8870c0b6cf3c225f396b0086873cb8eb4a41417f6495", func := "loop.example/graphviews/laws.FnPutPair", spec := "fnPutPair", unfollowed := true, recurses := true, apart := false }
def FnPutPairSaid : Prop := fnPutPairRow.holds Try.pinned (OpenSpec.ofChange fnPutPairSpec)

/-- ITS FALSE NEIGHBOUR: 'it returns false'. Refute it at one input. -/
def fnPutPairWrong : ChangeSpec := { name := "fnPutPair", fn := fun _ => fun
  | [d1, d2] => { results := [.lit (.bool false)], args := [d1, d2] }
  | _ => none }
def FnPutPairWrongFalsely : Prop := fnPutPairRow.holds Try.pinned (OpenSpec.ofChange fnPutPairWrong)

/-- 'laws.FnPairsReverse': WHATEVER THE INPUT: true; the input reads as it did. -/
def fnPairsReverseSpec : ChangeSpec := { name := "fnPairsReverse", fn := fun _ => fun
  | [d] => { results := [.lit (.bool true)], args := [d] }
  | _ => none }
def fnPairsReverseRow : OpenClaim := { program := "ytjpikbbpmbeckaa", sum := "46c46710d1d1004ba61f8870c0b6cf3c225f396b0086873cb8eb4a41417f6495", func := "loop.example/graphviews/laws.FnPairsReverse", spec := "fnPairsReverse", unfollowed := true, recurses := true, apart := false }
def FnPairsReverseSaid : Prop := fnPairsReverseRow.holds Try.pinned (OpenSpec.ofChange fnPairsReverseSpec)

/-- ITS FALSE NEIGHBOUR: 'it returns false'. Refute it at one input. -/
def fnPairsReverseWrong : ChangeSpec := { name := "fnPairsReverse", fn := fun _ => fun
  | [d] => { results := [.lit (.bool false)], args := [d] }
  | _ => none }
def FnPairsReverseWrongFalsely : Prop := fnPairsReverseRow.holds Try.pinned (OpenSpec.ofChange fnPairsReverseWrong)

/-- 'laws.FnBetterPath': WHATEVER THE INPUT: true; the input reads as it did. -/
def fnBetterPathSpec : ChangeSpec := { name := "fnBetterPath", fn := fun _ => fun
  | [d] => { results := [.lit (.bool true)], args := [d] }
  | _ => none }
def fnBetterPathRow : OpenClaim := { program := "ytjpikbbpmbeckaa", sum := "46c46710d1d1004ba61f8870c0b6cf3c225f396b0086873cb8eb4a41417f6495", func := "loop.example/graphviews/laws.FnBetterPath", spec := "fnBetterPath", unfollowed := true, recurses := true, apart := false }
def FnBetterPathSaid : Prop := fnBetterPathRow.holds Try.pinned (OpenSpec.ofChange fnBetterPathSpec)

/-- ITS FALSE NEIGHBOUR: 'it returns false'. Refute it at one input. -/
def fnBetterPathWrong : ChangeSpec := { name := "fnBetterPath", fn := fun _ => fun
  | [d] => { results := [.lit (.bool false)], args := [d] }
  | _ => none }
def FnBetterPathWrongFalsely : Prop := fnBetterPathRow.holds Try.pinned (OpenSpec.ofChange fnBetterPathWrong)

/-- 'laws.FnPathAccepts': WHATEVER THE INPUT: true; the input reads as it did. -/
def fnPathAcceptsSpec : ChangeSpec := { name := "fnPathAccepts", fn := fun _ => fun
  | [d] => { results := [.lit (.bool true)], args := [d] }
  | _ => none }
def fnPathAcceptsRow : OpenClaim := { program := "ytjpikbbpmbeckaa", sum := "46c46710d1d1004ba61f8870c0b6cf3c225f396b0086873cb8eb4a41417f6495", func := "loop.example/graphviews/laws.FnPathAccepts", spec := "fnPathAccepts", apart := false }
def FnPathAcceptsSaid : Prop := fnPathAcceptsRow.holds Try.pinned (OpenSpec.ofChange fnPathAcceptsSpec)

/-- ITS FALSE NEIGHBOUR: 'it returns false'. Refute it at one input. -/
def fnPathAcceptsWrong : ChangeSpec := { name := "fnPathAccepts", fn := fun _ => fun
  | [d] => { results := [.lit (.bool false)], args := [d] }
  | _ => none }
def FnPathAcceptsWrongFalsely : Prop := fnPathAcceptsRow.holds Try.pinned (OpenSpec.ofChange fnPathAcceptsWrong)

/- THE SECOND FORM. 'bulk': how many values and letters a reading holds, each counted each time it is reached (what is shared counts as often as it is met; a slice's spare places count too). A statement '..UptoSaid' is the law's where the arguments, and the package variables that the reading takes, are together of bulk at most 1048576: NARROWER than '..Said'. Prove '..Said' where nothing that the law and all that it calls make is longer than what came in: it says more and counts as full. Else prove '..UptoSaid'. A law counts once. -/
mutual
def uptoBulk {H : Type} : DataW H → Nat
  | .lit (.string bytes) => bytes.length + 1
  | .lit _ => 1
  | .nil => 1
  | .ptr d => uptoBulk d + 1
  | .slice elems spare => uptoBulkAll elems + uptoBulkAll spare + 1
  | .agg parts => uptoBulkAll parts + 1
  | .iface _ d => uptoBulk d + 1
  | .map entries => uptoBulkEntries entries + 1
  | .held _ => 1
def uptoBulkAll {H : Type} : List (DataW H) → Nat
  | [] => 0
  | d :: r => uptoBulk d + uptoBulkAll r
def uptoBulkEntries {H : Type} : List (Lit × DataW H) → Nat
  | [] => 0
  | x :: r => uptoBulkEntry x + uptoBulkEntries r
def uptoBulkEntry {H : Type} : Lit × DataW H → Nat
  | (.string bytes, d) => bytes.length + uptoBulk d + 1
  | (_, d) => uptoBulk d + 1
 end
def uptoSmall : (H : Type) → List (DataW H) → Bool := fun _ ds => decide (uptoBulkAll ds ≤ 1048576)
def OpenSpec.upto (s : _root_.Go.ChangeSpec) : _root_.Go.OpenSpec := { _root_.Go.OpenSpec.ofChange s with cond := some uptoSmall }

/-- 'laws.FnViewSame', WHERE WHAT IT READS IS OF BULK AT MOST 1048576: true; the input reads as it did. -/
def fnViewSameUptoRow : OpenClaim := { program := "ytjpikbbpmbeckaa", sum := "46c46710d1d1004ba61f8870c0b6cf3c225f396b0086873cb8eb4a41417f6495", func := "loop.example/graphviews/laws.FnViewSame", spec := "fnViewSame", apart := false, narrowed := true }
def FnViewSameUptoSaid : Prop := fnViewSameUptoRow.holds Try.pinned (OpenSpec.upto fnViewSameSpec)

/-- 'laws.FnWorstOf', WHERE WHAT IT READS IS OF BULK AT MOST 1048576: true; the input reads as it did. -/
def fnWorstOfUptoRow : OpenClaim := { program := "ytjpikbbpmbeckaa", sum := "46c46710d1d1004ba61f8870c0b6cf3c225f396b0086873cb8eb4a41417f6495", func := "loop.example/graphviews/laws.FnWorstOf", spec := "fnWorstOf", unfollowed := true, recurses := true, apart := false, narrowed := true }
def FnWorstOfUptoSaid : Prop := fnWorstOfUptoRow.holds Try.pinned (OpenSpec.upto fnWorstOfSpec)

/-- 'laws.FnCenterOf', WHERE WHAT IT READS IS OF BULK AT MOST 1048576: true; the input reads as it did. -/
def fnCenterOfUptoRow : OpenClaim := { program := "ytjpikbbpmbeckaa", sum := "46c46710d1d1004ba61f8870c0b6cf3c225f396b0086873cb8eb4a41417f6495", func := "loop.example/graphviews/laws.FnCenterOf", spec := "fnCenterOf", unfollowed := true, recurses := true, apart := false, narrowed := true }
def FnCenterOfUptoSaid : Prop := fnCenterOfUptoRow.holds Try.pinned (OpenSpec.upto fnCenterOfSpec)

/-- 'laws.FnTimesGroups', WHERE WHAT IT READS IS OF BULK AT MOST 1048576: true; the input reads as it did. -/
def fnTimesGroupsUptoRow : OpenClaim := { program := "ytjpikbbpmbeckaa", sum := "46c46710d1d1004ba61f8870c0b6cf3c225f396b0086873cb8eb4a41417f6495", func := "loop.example/graphviews/laws.FnTimesGroups", spec := "fnTimesGroups", unfollowed := true, recurses := true, apart := false, narrowed := true }
def FnTimesGroupsUptoSaid : Prop := fnTimesGroupsUptoRow.holds Try.pinned (OpenSpec.upto fnTimesGroupsSpec)

/-- 'laws.FnEdgeMatrix', WHERE WHAT IT READS IS OF BULK AT MOST 1048576: true; the input reads as it did. -/
def fnEdgeMatrixUptoRow : OpenClaim := { program := "ytjpikbbpmbeckaa", sum := "46c46710d1d1004ba61f8870c0b6cf3c225f396b0086873cb8eb4a41417f6495", func := "loop.example/graphviews/laws.FnEdgeMatrix", spec := "fnEdgeMatrix", unfollowed := true, recurses := true, apart := false, narrowed := true }
def FnEdgeMatrixUptoSaid : Prop := fnEdgeMatrixUptoRow.holds Try.pinned (OpenSpec.upto fnEdgeMatrixSpec)

/-- 'laws.FnTimesMatrix', WHERE WHAT IT READS IS OF BULK AT MOST 1048576: true; the input reads as it did. -/
def fnTimesMatrixUptoRow : OpenClaim := { program := "ytjpikbbpmbeckaa", sum := "46c46710d1d1004ba61f8870c0b6cf3c225f396b0086873cb8eb4a41417f6495", func := "loop.example/graphviews/laws.FnTimesMatrix", spec := "fnTimesMatrix", unfollowed := true, recurses := true, apart := false, narrowed := true }
def FnTimesMatrixUptoSaid : Prop := fnTimesMatrixUptoRow.holds Try.pinned (OpenSpec.upto fnTimesMatrixSpec)

/-- 'laws.FnAllPairs', WHERE WHAT IT READS IS OF BULK AT MOST 1048576: true; the input reads as it did. -/
def fnAllPairsUptoRow : OpenClaim := { program := "ytjpikbbpmbeckaa", sum := "46c46710d1d1004ba61f8870c0b6cf3c225f396b0086873cb8eb4a41417f6495", func := "loop.example/graphviews/laws.FnAllPairs", spec := "fnAllPairs", unfollowed := true, recurses := true, apart := false, narrowed := true }
def FnAllPairsUptoSaid : Prop := fnAllPairsUptoRow.holds Try.pinned (OpenSpec.upto fnAllPairsSpec)

/-- 'laws.FnTimesClose', WHERE WHAT IT READS IS OF BULK AT MOST 1048576: true; the input reads as it did. -/
def fnTimesCloseUptoRow : OpenClaim := { program := "ytjpikbbpmbeckaa", sum := "46c46710d1d1004ba61f8870c0b6cf3c225f396b0086873cb8eb4a41417f6495", func := "loop.example/graphviews/laws.FnTimesClose", spec := "fnTimesClose", unfollowed := true, recurses := true, apart := false, narrowed := true }
def FnTimesCloseUptoSaid : Prop := fnTimesCloseUptoRow.holds Try.pinned (OpenSpec.upto fnTimesCloseSpec)

/-- 'laws.FnPutPair', WHERE WHAT IT READS IS OF BULK AT MOST 1048576: true; the input reads as it did. -/
def fnPutPairUptoRow : OpenClaim := { program := "ytjpikbbpmbeckaa", sum := "46c46710d1d1004ba61f8870c0b6cf3c225f396b0086873cb8eb4a41417f6495", func := "loop.example/graphviews/laws.FnPutPair", spec := "fnPutPair", unfollowed := true, recurses := true, apart := false, narrowed := true }
def FnPutPairUptoSaid : Prop := fnPutPairUptoRow.holds Try.pinned (OpenSpec.upto fnPutPairSpec)

/-- 'laws.FnPairsReverse', WHERE WHAT IT READS IS OF BULK AT MOST 1048576: true; the input reads as it did. -/
def fnPairsReverseUptoRow : OpenClaim := { program := "ytjpikbbpmbeckaa", sum := "46c46710d1d1004ba61f8870c0b6cf3c225f396b0086873cb8eb4a41417f6495", func := "loop.example/graphviews/laws.FnPairsReverse", spec := "fnPairsReverse", unfollowed := true, recurses := true, apart := false, narrowed := true }
def FnPairsReverseUptoSaid : Prop := fnPairsReverseUptoRow.holds Try.pinned (OpenSpec.upto fnPairsReverseSpec)

/-- 'laws.FnBetterPath', WHERE WHAT IT READS IS OF BULK AT MOST 1048576: true; the input reads as it did. -/
def fnBetterPathUptoRow : OpenClaim := { program := "ytjpikbbpmbeckaa", sum := "46c46710d1d1004ba61f8870c0b6cf3c225f396b0086873cb8eb4a41417f6495", func := "loop.example/graphviews/laws.FnBetterPath", spec := "fnBetterPath", unfollowed := true, recurses := true, apart := false, narrowed := true }
def FnBetterPathUptoSaid : Prop := fnBetterPathUptoRow.holds Try.pinned (OpenSpec.upto fnBetterPathSpec)

/-- 'laws.FnPathAccepts', WHERE WHAT IT READS IS OF BULK AT MOST 1048576: true; the input reads as it did. -/
def fnPathAcceptsUptoRow : OpenClaim := { program := "ytjpikbbpmbeckaa", sum := "46c46710d1d1004ba61f8870c0b6cf3c225f396b0086873cb8eb4a41417f6495", func := "loop.example/graphviews/laws.FnPathAccepts", spec := "fnPathAccepts", apart := false, narrowed := true }
def FnPathAcceptsUptoSaid : Prop := fnPathAcceptsUptoRow.holds Try.pinned (OpenSpec.upto fnPathAcceptsSpec)

end Rows
end Go.Proofs.Ytjpikbbpmbeckaa
