/-
  No cell of these rows narrows 'for every input' (looked for: loops, veiled, ifaces, maps, wideKeys, modest, calm, conditions, laid).
  DERIVED. THE GIVEN ROWS OF THIS SEAT. 8 by the template 'for every input the law returns true; each argument reads behind the call as it read before'; 0 by the template 'total and deterministic' (their statements: YtgfipdompmkjiaaTotals.lean).
  GIVEN WITH THE SEED: the statements are not yours to turn. If you find one false, say at which input.
  Laid BY PROGRAM, IN A SANDBOX (cutbox-rows.mjs): the forced cells as the released guide's own fill.sh prints them over the translation f59f31f6461f20e1… (all of the seat's roots in one cut). By AI agents, Wed Nov 11 2026. No macro, syntax, notation, axiom, sorry.
-/
import Derived.Test.YtgfipdompmkjiaaChecked
import GoSem.Claim
import GoSem.ClaimJoined
import GoSem.ClaimMapViews
import Derived.JoinedTies
import Derived.KernelRfl
namespace Go.Proofs.Ytgfipdompmkjiaa
/- THE CELL 'sum', in the pinned program and in every row, IS THE sha256 OF THE DUMP (.gsa) THAT YtgfipdompmkjiaaProg.lean LOADS. Nothing in Lean hashes anything: it is a label: what it is worth is what the hold of that sum in a sandbox is worth. -/
noncomputable def Try.pinned : Pinned := { name := "ytgfipdompmkjiaa", sum := "f59f31f6461f20e18bb3195e9b176e13281ed6c4fb1abcc1fc68d87b0e5d5f07", checked := Try.checked }
namespace Rows
def none {H : Type} : Left H := { results := [], args := [] }

/-- 'laws.FnExactRelaxEdge': WHATEVER THE INPUT: true; the input reads as it did. -/
def fnExactRelaxEdgeSpec : ChangeSpec := { name := "fnExactRelaxEdge", fn := fun _ => fun
  | [d1, d2, d3] => { results := [.lit (.bool true)], args := [d1, d2, d3] }
  | _ => none }
def fnExactRelaxEdgeRow : OpenClaim := { program := "ytgfipdompmkjiaa", sum := "f59f31f6461f20e18bb3195e9b176e13281ed6c4fb1abcc1fc68d87b0e5d5f07", func := "loop.example/graphviews/laws.FnExactRelaxEdge", spec := "fnExactRelaxEdge", unfollowed := true, recurses := true, apart := false }
def FnExactRelaxEdgeSaid : Prop := fnExactRelaxEdgeRow.holds Try.pinned (OpenSpec.ofChange fnExactRelaxEdgeSpec)

/-- ITS FALSE NEIGHBOUR: 'it returns false'. Refute it at one input. -/
def fnExactRelaxEdgeWrong : ChangeSpec := { name := "fnExactRelaxEdge", fn := fun _ => fun
  | [d1, d2, d3] => { results := [.lit (.bool false)], args := [d1, d2, d3] }
  | _ => none }
def FnExactRelaxEdgeWrongFalsely : Prop := fnExactRelaxEdgeRow.holds Try.pinned (OpenSpec.ofChange fnExactRelaxEdgeWrong)

/-- 'laws.FnExactRunSchedule': WHATEVER THE INPUT: true; the input reads as it did. -/
def fnExactRunScheduleSpec : ChangeSpec := { name := "fnExactRunSchedule", fn := fun _ => fun
  | [d1, d2, d3] => { results := [.lit (.bool true)], args := [d1, d2, d3] }
  | _ => none }
def fnExactRunScheduleRow : OpenClaim := { program := "ytgfipdompmkjiaa", sum := "f59f31f6461f20e18bb3195e9b176e13281ed6c4fb1abcc1fc68d87b0e5d5f07", func := "loop.example/graphviews/laws.FnExactRunSchedule", spec := "fnExactRunSchedule", unfollowed := true, recurses := true, apart := false }
def FnExactRunScheduleSaid : Prop := fnExactRunScheduleRow.holds Try.pinned (OpenSpec.ofChange fnExactRunScheduleSpec)

/-- ITS FALSE NEIGHBOUR: 'it returns false'. Refute it at one input. -/
def fnExactRunScheduleWrong : ChangeSpec := { name := "fnExactRunSchedule", fn := fun _ => fun
  | [d1, d2, d3] => { results := [.lit (.bool false)], args := [d1, d2, d3] }
  | _ => none }
def FnExactRunScheduleWrongFalsely : Prop := fnExactRunScheduleRow.holds Try.pinned (OpenSpec.ofChange fnExactRunScheduleWrong)

/-- 'laws.FnExactLooseEdges': WHATEVER THE INPUT: true; the input reads as it did. -/
def fnExactLooseEdgesSpec : ChangeSpec := { name := "fnExactLooseEdges", fn := fun _ => fun
  | [d1, d2] => { results := [.lit (.bool true)], args := [d1, d2] }
  | _ => none }
def fnExactLooseEdgesRow : OpenClaim := { program := "ytgfipdompmkjiaa", sum := "f59f31f6461f20e18bb3195e9b176e13281ed6c4fb1abcc1fc68d87b0e5d5f07", func := "loop.example/graphviews/laws.FnExactLooseEdges", spec := "fnExactLooseEdges", unfollowed := true, recurses := true, apart := false }
def FnExactLooseEdgesSaid : Prop := fnExactLooseEdgesRow.holds Try.pinned (OpenSpec.ofChange fnExactLooseEdgesSpec)

/-- ITS FALSE NEIGHBOUR: 'it returns false'. Refute it at one input. -/
def fnExactLooseEdgesWrong : ChangeSpec := { name := "fnExactLooseEdges", fn := fun _ => fun
  | [d1, d2] => { results := [.lit (.bool false)], args := [d1, d2] }
  | _ => none }
def FnExactLooseEdgesWrongFalsely : Prop := fnExactLooseEdgesRow.holds Try.pinned (OpenSpec.ofChange fnExactLooseEdgesWrong)

/-- 'laws.FnExactFinishView': WHATEVER THE INPUT: true; the input reads as it did. -/
def fnExactFinishViewSpec : ChangeSpec := { name := "fnExactFinishView", fn := fun _ => fun
  | [d1, d2] => { results := [.lit (.bool true)], args := [d1, d2] }
  | _ => none }
def fnExactFinishViewRow : OpenClaim := { program := "ytgfipdompmkjiaa", sum := "f59f31f6461f20e18bb3195e9b176e13281ed6c4fb1abcc1fc68d87b0e5d5f07", func := "loop.example/graphviews/laws.FnExactFinishView", spec := "fnExactFinishView", unfollowed := true, recurses := true, apart := false }
def FnExactFinishViewSaid : Prop := fnExactFinishViewRow.holds Try.pinned (OpenSpec.ofChange fnExactFinishViewSpec)

/-- ITS FALSE NEIGHBOUR: 'it returns false'. Refute it at one input. -/
def fnExactFinishViewWrong : ChangeSpec := { name := "fnExactFinishView", fn := fun _ => fun
  | [d1, d2] => { results := [.lit (.bool false)], args := [d1, d2] }
  | _ => none }
def FnExactFinishViewWrongFalsely : Prop := fnExactFinishViewRow.holds Try.pinned (OpenSpec.ofChange fnExactFinishViewWrong)

/-- 'laws.FnExactFairRounds': WHATEVER THE INPUT: true; the input reads as it did. -/
def fnExactFairRoundsSpec : ChangeSpec := { name := "fnExactFairRounds", fn := fun _ => fun
  | [d1, d2] => { results := [.lit (.bool true)], args := [d1, d2] }
  | _ => none }
def fnExactFairRoundsRow : OpenClaim := { program := "ytgfipdompmkjiaa", sum := "f59f31f6461f20e18bb3195e9b176e13281ed6c4fb1abcc1fc68d87b0e5d5f07", func := "loop.example/graphviews/laws.FnExactFairRounds", spec := "fnExactFairRounds", apart := false }
def FnExactFairRoundsSaid : Prop := fnExactFairRoundsRow.holds Try.pinned (OpenSpec.ofChange fnExactFairRoundsSpec)

/-- ITS FALSE NEIGHBOUR: 'it returns false'. Refute it at one input. -/
def fnExactFairRoundsWrong : ChangeSpec := { name := "fnExactFairRounds", fn := fun _ => fun
  | [d1, d2] => { results := [.lit (.bool false)], args := [d1, d2] }
  | _ => none }
def FnExactFairRoundsWrongFalsely : Prop := fnExactFairRoundsRow.holds Try.pinned (OpenSpec.ofChange fnExactFairRoundsWrong)

/-- 'laws.FnExactValuesOf': WHATEVER THE INPUT: true; the input reads as it did. -/
def fnExactValuesOfSpec : ChangeSpec := { name := "fnExactValuesOf", fn := fun _ => fun
  | [d1, d2, d3, d4] => { results := [.lit (.bool true)], args := [d1, d2, d3, d4] }
  | _ => none }
def fnExactValuesOfRow : OpenClaim := { program := "ytgfipdompmkjiaa", sum := "f59f31f6461f20e18bb3195e9b176e13281ed6c4fb1abcc1fc68d87b0e5d5f07", func := "loop.example/graphviews/laws.FnExactValuesOf", spec := "fnExactValuesOf", unfollowed := true, recurses := true, apart := false }
def FnExactValuesOfSaid : Prop := fnExactValuesOfRow.holds Try.pinned (OpenSpec.ofChange fnExactValuesOfSpec)

/-- ITS FALSE NEIGHBOUR: 'it returns false'. Refute it at one input. -/
def fnExactValuesOfWrong : ChangeSpec := { name := "fnExactValuesOf", fn := fun _ => fun
  | [d1, d2, d3, d4] => { results := [.lit (.bool false)], args := [d1, d2, d3, d4] }
  | _ => none }
def FnExactValuesOfWrongFalsely : Prop := fnExactValuesOfRow.holds Try.pinned (OpenSpec.ofChange fnExactValuesOfWrong)

/-- 'laws.FnExactBestFirst': WHATEVER THE INPUT: true; the input reads as it did. -/
def fnExactBestFirstSpec : ChangeSpec := { name := "fnExactBestFirst", fn := fun _ => fun
  | [d1, d2, d3] => { results := [.lit (.bool true)], args := [d1, d2, d3] }
  | _ => none }
def fnExactBestFirstRow : OpenClaim := { program := "ytgfipdompmkjiaa", sum := "f59f31f6461f20e18bb3195e9b176e13281ed6c4fb1abcc1fc68d87b0e5d5f07", func := "loop.example/graphviews/laws.FnExactBestFirst", spec := "fnExactBestFirst", unfollowed := true, recurses := true, apart := false }
def FnExactBestFirstSaid : Prop := fnExactBestFirstRow.holds Try.pinned (OpenSpec.ofChange fnExactBestFirstSpec)

/-- ITS FALSE NEIGHBOUR: 'it returns false'. Refute it at one input. -/
def fnExactBestFirstWrong : ChangeSpec := { name := "fnExactBestFirst", fn := fun _ => fun
  | [d1, d2, d3] => { results := [.lit (.bool false)], args := [d1, d2, d3] }
  | _ => none }
def FnExactBestFirstWrongFalsely : Prop := fnExactBestFirstRow.holds Try.pinned (OpenSpec.ofChange fnExactBestFirstWrong)

/-- 'laws.FnExactStopAt': WHATEVER THE INPUT: true; the input reads as it did. -/
def fnExactStopAtSpec : ChangeSpec := { name := "fnExactStopAt", fn := fun _ => fun
  | [d1, d2, d3, d4] => { results := [.lit (.bool true)], args := [d1, d2, d3, d4] }
  | _ => none }
def fnExactStopAtRow : OpenClaim := { program := "ytgfipdompmkjiaa", sum := "f59f31f6461f20e18bb3195e9b176e13281ed6c4fb1abcc1fc68d87b0e5d5f07", func := "loop.example/graphviews/laws.FnExactStopAt", spec := "fnExactStopAt", unfollowed := true, recurses := true, apart := false }
def FnExactStopAtSaid : Prop := fnExactStopAtRow.holds Try.pinned (OpenSpec.ofChange fnExactStopAtSpec)

/-- ITS FALSE NEIGHBOUR: 'it returns false'. Refute it at one input. -/
def fnExactStopAtWrong : ChangeSpec := { name := "fnExactStopAt", fn := fun _ => fun
  | [d1, d2, d3, d4] => { results := [.lit (.bool false)], args := [d1, d2, d3, d4] }
  | _ => none }
def FnExactStopAtWrongFalsely : Prop := fnExactStopAtRow.holds Try.pinned (OpenSpec.ofChange fnExactStopAtWrong)

/- THE SECOND FORM. 'bulk': how many values and letters a reading holds, each counted each time it is reached (what is shared counts as often as it is met; a slice's spare places count too). A statement '..UptoSaid' is the law's where the arguments, and the package variables that the reading takes, are together of bulk at most 1048576: NARROWER than '..Said'. Prove '..Said' where nothing that the law and all that it calls make is longer than what came in: it says more and counts as full. Else prove '..UptoSaid'. A law counts once. -/
mutual
def uptoBulk {H : Type} : DataW H → Nat
  | .lit (.string bytes) => bytes.length + 1
  | .lit _ => 1
  | .nil => 1
  | .ptr d => uptoBulk d + 1
  | .slice elems spare => uptoBulkAll elems + uptoBulkAll spare + 1
  | .agg parts => uptoBulkAll parts + 1
  | .iface _ d => uptoBulk d + 1
  | .map entries => uptoBulkEntries entries + 1
  | .held _ => 1
def uptoBulkAll {H : Type} : List (DataW H) → Nat
  | [] => 0
  | d :: r => uptoBulk d + uptoBulkAll r
def uptoBulkEntries {H : Type} : List (Lit × DataW H) → Nat
  | [] => 0
  | x :: r => uptoBulkEntry x + uptoBulkEntries r
def uptoBulkEntry {H : Type} : Lit × DataW H → Nat
  | (.string bytes, d) => bytes.length + uptoBulk d + 1
  | (_, d) => uptoBulk d + 1
 end
def uptoSmall : (H : Type) → List (DataW H) → Bool := fun _ ds => decide (uptoBulkAll ds ≤ 1048576)
def OpenSpec.upto (s : _root_.Go.ChangeSpec) : _root_.Go.OpenSpec := { _root_.Go.OpenSpec.ofChange s with cond := some uptoSmall }

/-- 'laws.FnExactRelaxEdge', WHERE WHAT IT READS IS OF BULK AT MOST 1048576: true; the input reads as it did. -/
def fnExactRelaxEdgeUptoRow : OpenClaim := { program := "ytgfipdompmkjiaa", sum := "f59f31f6461f20e18bb3195e9b176e13281ed6c4fb1abcc1fc68d87b0e5d5f07", func := "loop.example/graphviews/laws.FnExactRelaxEdge", spec := "fnExactRelaxEdge", unfollowed := true, recurses := true, apart := false, narrowed := true }
def FnExactRelaxEdgeUptoSaid : Prop := fnExactRelaxEdgeUptoRow.holds Try.pinned (OpenSpec.upto fnExactRelaxEdgeSpec)

/-- 'laws.FnExactRunSchedule', WHERE WHAT IT READS IS OF BULK AT MOST 1048576: true; the input reads as it did. -/
def fnExactRunScheduleUptoRow : OpenClaim := { program := "ytgfipdompmkjiaa", sum := "f59f31f6461f20e18bb3195e9b176e13281ed6c4fb1abcc1fc68d87b0e5d5f07", func := "loop.example/graphviews/laws.FnExactRunSchedule", spec := "fnExactRunSchedule", unfollowed := true, recurses := true, apart := false, narrowed := true }
def FnExactRunScheduleUptoSaid : Prop := fnExactRunScheduleUptoRow.holds Try.pinned (OpenSpec.upto fnExactRunScheduleSpec)

/-- 'laws.FnExactLooseEdges', WHERE WHAT IT READS IS OF BULK AT MOST 1048576: true; the input reads as it did. -/
def fnExactLooseEdgesUptoRow : OpenClaim := { program := "ytgfipdompmkjiaa", sum := "f59f31f6461f20e18bb3195e9b176e13281ed6c4fb1abcc1fc68d87b0e5d5f07", func := "loop.example/graphviews/laws.FnExactLooseEdges", spec := "fnExactLooseEdges", unfollowed := true, recurses := true, apart := false, narrowed := true }
def FnExactLooseEdgesUptoSaid : Prop := fnExactLooseEdgesUptoRow.holds Try.pinned (OpenSpec.upto fnExactLooseEdgesSpec)

/-- 'laws.FnExactFinishView', WHERE WHAT IT READS IS OF BULK AT MOST 1048576: true; the input reads as it did. -/
def fnExactFinishViewUptoRow : OpenClaim := { program := "ytgfipdompmkjiaa", sum := "f59f31f6461f20e18bb3195e9b176e13281ed6c4fb1abcc1fc68d87b0e5d5f07", func := "loop.example/graphviews/laws.FnExactFinishView", spec := "fnExactFinishView", unfollowed := true, recurses := true, apart := false, narrowed := true }
def FnExactFinishViewUptoSaid : Prop := fnExactFinishViewUptoRow.holds Try.pinned (OpenSpec.upto fnExactFinishViewSpec)

/-- 'laws.FnExactFairRounds', WHERE WHAT IT READS IS OF BULK AT MOST 1048576: true; the input reads as it did. -/
def fnExactFairRoundsUptoRow : OpenClaim := { program := "ytgfipdompmkjiaa", sum := "f59f31f6461f20e18bb3195e9b176e13281ed6c4fb1abcc1fc68d87b0e5d5f07", func := "loop.example/graphviews/laws.FnExactFairRounds", spec := "fnExactFairRounds", apart := false, narrowed := true }
def FnExactFairRoundsUptoSaid : Prop := fnExactFairRoundsUptoRow.holds Try.pinned (OpenSpec.upto fnExactFairRoundsSpec)

/-- 'laws.FnExactValuesOf', WHERE WHAT IT READS IS OF BULK AT MOST 1048576: true; the input reads as it did. -/
def fnExactValuesOfUptoRow : OpenClaim := { program := "ytgfipdompmkjiaa", sum := "f59f31f6461f20e18bb3195e9b176e13281ed6c4fb1abcc1fc68d87b0e5d5f07", func := "loop.example/graphviews/laws.FnExactValuesOf", spec := "fnExactValuesOf", unfollowed := true, recurses := true, apart := false, narrowed := true }
def FnExactValuesOfUptoSaid : Prop := fnExactValuesOfUptoRow.holds Try.pinned (OpenSpec.upto fnExactValuesOfSpec)

/-- 'laws.FnExactBestFirst', WHERE WHAT IT READS IS OF BULK AT MOST 1048576: true; the input reads as it did. -/
def fnExactBestFirstUptoRow : OpenClaim := { program := "ytgfipdompmkjiaa", sum := "f59f31f6461f20e18bb3195e9b176e13281ed6c4fb1abcc1fc68d87b0e5d5f07", func := "loop.example/graphviews/laws.FnExactBestFirst", spec := "fnExactBestFirst", unfollowed := true, recurses := true, apart := false, narrowed := true }
def FnExactBestFirstUptoSaid : Prop := fnExactBestFirstUptoRow.holds Try.pinned (OpenSpec.upto fnExactBestFirstSpec)

/-- 'laws.FnExactStopAt', WHERE WHAT IT READS IS OF BULK AT MOST 1048576: true; the input reads as it did. -/
def fnExactStopAtUptoRow : OpenClaim := { program := "ytgfipdompmkjiaa", sum := "f59f31f6461f20e18bb3195e9b176e13281ed6c4fb1abcc1fc68d87b0e5d5f07", func := "loop.example/graphviews/laws.FnExactStopAt", spec := "fnExactStopAt", unfollowed := true, recurses := true, apart := false, narrowed := true }
def FnExactStopAtUptoSaid : Prop := fnExactStopAtUptoRow.holds Try.pinned (OpenSpec.upto fnExactStopAtSpec)

end Rows
end Go.Proofs.Ytgfipdompmkjiaa
