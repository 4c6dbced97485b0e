/-
  No cell of these rows narrows 'for every input' (looked for: loops, veiled, ifaces, maps, wideKeys, modest, calm, conditions, laid).
  DERIVED. THE GIVEN ROWS OF THIS SEAT. 7 by the template 'for every input the law returns true; each argument reads behind the call as it read before'; 0 by the template 'total and deterministic' (their statements: YtchheaadigagnaaTotals.lean).
  GIVEN WITH THE SEED: the statements are not yours to turn. If you find one false, say at which input.
  Laid BY PROGRAM, IN A SANDBOX (cutbox-rows.mjs): the forced cells as the released guide's own fill.sh prints them over the translation 0c67f2d3b42fd36e… (all of the seat's roots in one cut). By AI agents, Wed Nov 11 2026. No macro, syntax, notation, axiom, sorry.
-/
import Derived.Test.YtchheaadigagnaaChecked
import GoSem.Claim
import GoSem.ClaimJoined
import GoSem.ClaimMapViews
import Derived.JoinedTies
import Derived.KernelRfl
namespace Go.Proofs.Ytchheaadigagnaa
/- THE CELL 'sum', in the pinned program and in every row, IS THE sha256 OF THE DUMP (.gsa) THAT YtchheaadigagnaaProg.lean LOADS. Nothing in Lean hashes anything: it is a label: what it is worth is what the hold of that sum in a sandbox is worth. -/
noncomputable def Try.pinned : Pinned := { name := "ytchheaadigagnaa", sum := "0c67f2d3b42fd36e4d1b99e1dbbee4fb91939a25b7c3447da060f69598201c20", checked := Try.checked }
namespace Rows
def none {H : Type} : Left H := { results := [], args := [] }

/-- 'laws.FnExactBestFirst': WHATEVER THE INPUT: true; the input reads as it did. -/
def fnExactBestFirstSpec : ChangeSpec := { name := "fnExactBestFirst", fn := fun _ => fun
  | [d1, d2, d3] => { results := [.lit (.bool true)], args := [d1, d2, d3] }
  | _ => none }
def fnExactBestFirstRow : OpenClaim := { program := "ytchheaadigagnaa", sum := "0c67f2d3b42fd36e4d1b99e1dbbee4fb91939a25b7c3447da060f69598201c20", func := "loop.example/graphviews/laws.FnExactBestFirst", spec := "fnExactBestFirst", unfollowed := true, recurses := true, apart := false }
def FnExactBestFirstSaid : Prop := fnExactBestFirstRow.holds Try.pinned (OpenSpec.ofChange fnExactBestFirstSpec)

/-- ITS FALSE NEIGHBOUR: 'it returns false'. Refute it at one input. -/
def fnExactBestFirstWrong : ChangeSpec := { name := "fnExactBestFirst", fn := fun _ => fun
  | [d1, d2, d3] => { results := [.lit (.bool false)], args := [d1, d2, d3] }
  | _ => none }
def FnExactBestFirstWrongFalsely : Prop := fnExactBestFirstRow.holds Try.pinned (OpenSpec.ofChange fnExactBestFirstWrong)

/-- 'laws.FnExactStopAt': WHATEVER THE INPUT: true; the input reads as it did. -/
def fnExactStopAtSpec : ChangeSpec := { name := "fnExactStopAt", fn := fun _ => fun
  | [d1, d2, d3, d4] => { results := [.lit (.bool true)], args := [d1, d2, d3, d4] }
  | _ => none }
def fnExactStopAtRow : OpenClaim := { program := "ytchheaadigagnaa", sum := "0c67f2d3b42fd36e4d1b99e1dbbee4fb91939a25b7c3447da060f69598201c20", func := "loop.example/graphviews/laws.FnExactStopAt", spec := "fnExactStopAt", unfollowed := true, recurses := true, apart := false }
def FnExactStopAtSaid : Prop := fnExactStopAtRow.holds Try.pinned (OpenSpec.ofChange fnExactStopAtSpec)

/-- ITS FALSE NEIGHBOUR: 'it returns false'. Refute it at one input. -/
def fnExactStopAtWrong : ChangeSpec := { name := "fnExactStopAt", fn := fun _ => fun
  | [d1, d2, d3, d4] => { results := [.lit (.bool false)], args := [d1, d2, d3, d4] }
  | _ => none }
def FnExactStopAtWrongFalsely : Prop := fnExactStopAtRow.holds Try.pinned (OpenSpec.ofChange fnExactStopAtWrong)

/-- 'laws.FnExactKeepView': WHATEVER THE INPUT: true; the input reads as it did. -/
def fnExactKeepViewSpec : ChangeSpec := { name := "fnExactKeepView", fn := fun _ => fun
  | [d1, d2, d3] => { results := [.lit (.bool true)], args := [d1, d2, d3] }
  | _ => none }
def fnExactKeepViewRow : OpenClaim := { program := "ytchheaadigagnaa", sum := "0c67f2d3b42fd36e4d1b99e1dbbee4fb91939a25b7c3447da060f69598201c20", func := "loop.example/graphviews/laws.FnExactKeepView", spec := "fnExactKeepView", unfollowed := true, recurses := true, apart := false }
def FnExactKeepViewSaid : Prop := fnExactKeepViewRow.holds Try.pinned (OpenSpec.ofChange fnExactKeepViewSpec)

/-- ITS FALSE NEIGHBOUR: 'it returns false'. Refute it at one input. -/
def fnExactKeepViewWrong : ChangeSpec := { name := "fnExactKeepView", fn := fun _ => fun
  | [d1, d2, d3] => { results := [.lit (.bool false)], args := [d1, d2, d3] }
  | _ => none }
def FnExactKeepViewWrongFalsely : Prop := fnExactKeepViewRow.holds Try.pinned (OpenSpec.ofChange fnExactKeepViewWrong)

/-- 'laws.FnExactKeptValid': WHATEVER THE INPUT: true; the input reads as it did. -/
def fnExactKeptValidSpec : ChangeSpec := { name := "fnExactKeptValid", fn := fun _ => fun
  | [d] => { results := [.lit (.bool true)], args := [d] }
  | _ => none }
def fnExactKeptValidRow : OpenClaim := { program := "ytchheaadigagnaa", sum := "0c67f2d3b42fd36e4d1b99e1dbbee4fb91939a25b7c3447da060f69598201c20", func := "loop.example/graphviews/laws.FnExactKeptValid", spec := "fnExactKeptValid", unfollowed := true, recurses := true, apart := false }
def FnExactKeptValidSaid : Prop := fnExactKeptValidRow.holds Try.pinned (OpenSpec.ofChange fnExactKeptValidSpec)

/-- ITS FALSE NEIGHBOUR: 'it returns false'. Refute it at one input. -/
def fnExactKeptValidWrong : ChangeSpec := { name := "fnExactKeptValid", fn := fun _ => fun
  | [d] => { results := [.lit (.bool false)], args := [d] }
  | _ => none }
def FnExactKeptValidWrongFalsely : Prop := fnExactKeptValidRow.holds Try.pinned (OpenSpec.ofChange fnExactKeptValidWrong)

/-- 'laws.FnExactNodesBelow': WHATEVER THE INPUT: true; the input reads as it did. -/
def fnExactNodesBelowSpec : ChangeSpec := { name := "fnExactNodesBelow", fn := fun _ => fun
  | [d1, d2] => { results := [.lit (.bool true)], args := [d1, d2] }
  | _ => none }
def fnExactNodesBelowRow : OpenClaim := { program := "ytchheaadigagnaa", sum := "0c67f2d3b42fd36e4d1b99e1dbbee4fb91939a25b7c3447da060f69598201c20", func := "loop.example/graphviews/laws.FnExactNodesBelow", spec := "fnExactNodesBelow", unfollowed := true, recurses := true, apart := false }
def FnExactNodesBelowSaid : Prop := fnExactNodesBelowRow.holds Try.pinned (OpenSpec.ofChange fnExactNodesBelowSpec)

/-- ITS FALSE NEIGHBOUR: 'it returns false'. Refute it at one input. -/
def fnExactNodesBelowWrong : ChangeSpec := { name := "fnExactNodesBelow", fn := fun _ => fun
  | [d1, d2] => { results := [.lit (.bool false)], args := [d1, d2] }
  | _ => none }
def FnExactNodesBelowWrongFalsely : Prop := fnExactNodesBelowRow.holds Try.pinned (OpenSpec.ofChange fnExactNodesBelowWrong)

/-- 'laws.FnExactKeptPath': WHATEVER THE INPUT: true; the input reads as it did. -/
def fnExactKeptPathSpec : ChangeSpec := { name := "fnExactKeptPath", fn := fun _ => fun
  | [d1, d2] => { results := [.lit (.bool true)], args := [d1, d2] }
  | _ => none }
def fnExactKeptPathRow : OpenClaim := { program := "ytchheaadigagnaa", sum := "0c67f2d3b42fd36e4d1b99e1dbbee4fb91939a25b7c3447da060f69598201c20", func := "loop.example/graphviews/laws.FnExactKeptPath", spec := "fnExactKeptPath", unfollowed := true, recurses := true, apart := false }
def FnExactKeptPathSaid : Prop := fnExactKeptPathRow.holds Try.pinned (OpenSpec.ofChange fnExactKeptPathSpec)

/-- ITS FALSE NEIGHBOUR: 'it returns false'. Refute it at one input. -/
def fnExactKeptPathWrong : ChangeSpec := { name := "fnExactKeptPath", fn := fun _ => fun
  | [d1, d2] => { results := [.lit (.bool false)], args := [d1, d2] }
  | _ => none }
def FnExactKeptPathWrongFalsely : Prop := fnExactKeptPathRow.holds Try.pinned (OpenSpec.ofChange fnExactKeptPathWrong)

/-- 'laws.FnExactTreeEdges': WHATEVER THE INPUT: true; the input reads as it did. -/
def fnExactTreeEdgesSpec : ChangeSpec := { name := "fnExactTreeEdges", fn := fun _ => fun
  | [d] => { results := [.lit (.bool true)], args := [d] }
  | _ => none }
def fnExactTreeEdgesRow : OpenClaim := { program := "ytchheaadigagnaa", sum := "0c67f2d3b42fd36e4d1b99e1dbbee4fb91939a25b7c3447da060f69598201c20", func := "loop.example/graphviews/laws.FnExactTreeEdges", spec := "fnExactTreeEdges", unfollowed := true, recurses := true, apart := false }
def FnExactTreeEdgesSaid : Prop := fnExactTreeEdgesRow.holds Try.pinned (OpenSpec.ofChange fnExactTreeEdgesSpec)

/-- ITS FALSE NEIGHBOUR: 'it returns false'. Refute it at one input. -/
def fnExactTreeEdgesWrong : ChangeSpec := { name := "fnExactTreeEdges", fn := fun _ => fun
  | [d] => { results := [.lit (.bool false)], args := [d] }
  | _ => none }
def FnExactTreeEdgesWrongFalsely : Prop := fnExactTreeEdgesRow.holds Try.pinned (OpenSpec.ofChange fnExactTreeEdgesWrong)

/- THE SECOND FORM. 'bulk': how many values and letters a reading holds, each counted each time it is reached (what is shared counts as often as it is met; a slice's spare places count too). A statement '..UptoSaid' is the law's where the arguments, and the package variables that the reading takes, are together of bulk at most 1048576: NARROWER than '..Said'. Prove '..Said' where nothing that the law and all that it calls make is longer than what came in: it says more and counts as full. Else prove '..UptoSaid'. A law counts once. -/
mutual
def uptoBulk {H : Type} : DataW H → Nat
  | .lit (.string bytes) => bytes.length + 1
  | .lit _ => 1
  | .nil => 1
  | .ptr d => uptoBulk d + 1
  | .slice elems spare => uptoBulkAll elems + uptoBulkAll spare + 1
  | .agg parts => uptoBulkAll parts + 1
  | .iface _ d => uptoBulk d + 1
  | .map entries => uptoBulkEntries entries + 1
  | .held _ => 1
def uptoBulkAll {H : Type} : List (DataW H) → Nat
  | [] => 0
  | d :: r => uptoBulk d + uptoBulkAll r
def uptoBulkEntries {H : Type} : List (Lit × DataW H) → Nat
  | [] => 0
  | x :: r => uptoBulkEntry x + uptoBulkEntries r
def uptoBulkEntry {H : Type} : Lit × DataW H → Nat
  | (.string bytes, d) => bytes.length + uptoBulk d + 1
  | (_, d) => uptoBulk d + 1
 end
def uptoSmall : (H : Type) → List (DataW H) → Bool := fun _ ds => decide (uptoBulkAll ds ≤ 1048576)
def OpenSpec.upto (s : _root_.Go.ChangeSpec) : _root_.Go.OpenSpec := { _root_.Go.OpenSpec.ofChange s with cond := some uptoSmall }

/-- 'laws.FnExactBestFirst', WHERE WHAT IT READS IS OF BULK AT MOST 1048576: true; the input reads as it did. -/
def fnExactBestFirstUptoRow : OpenClaim := { program := "ytchheaadigagnaa", sum := "0c67f2d3b42fd36e4d1b99e1dbbee4fb91939a25b7c3447da060f69598201c20", func := "loop.example/graphviews/laws.FnExactBestFirst", spec := "fnExactBestFirst", unfollowed := true, recurses := true, apart := false, narrowed := true }
def FnExactBestFirstUptoSaid : Prop := fnExactBestFirstUptoRow.holds Try.pinned (OpenSpec.upto fnExactBestFirstSpec)

/-- 'laws.FnExactStopAt', WHERE WHAT IT READS IS OF BULK AT MOST 1048576: true; the input reads as it did. -/
def fnExactStopAtUptoRow : OpenClaim := { program := "ytchheaadigagnaa", sum := "0c67f2d3b42fd36e4d1b99e1dbbee4fb91939a25b7c3447da060f69598201c20", func := "loop.example/graphviews/laws.FnExactStopAt", spec := "fnExactStopAt", unfollowed := true, recurses := true, apart := false, narrowed := true }
def FnExactStopAtUptoSaid : Prop := fnExactStopAtUptoRow.holds Try.pinned (OpenSpec.upto fnExactStopAtSpec)

/-- 'laws.FnExactKeepView', WHERE WHAT IT READS IS OF BULK AT MOST 1048576: true; the input reads as it did. -/
def fnExactKeepViewUptoRow : OpenClaim := { program := "ytchheaadigagnaa", sum := "0c67f2d3b42fd36e4d1b99e1dbbee4fb91939a25b7c3447da060f69598201c20", func := "loop.example/graphviews/laws.FnExactKeepView", spec := "fnExactKeepView", unfollowed := true, recurses := true, apart := false, narrowed := true }
def FnExactKeepViewUptoSaid : Prop := fnExactKeepViewUptoRow.holds Try.pinned (OpenSpec.upto fnExactKeepViewSpec)

/-- 'laws.FnExactKeptValid', WHERE WHAT IT READS IS OF BULK AT MOST 1048576: true; the input reads as it did. -/
def fnExactKeptValidUptoRow : OpenClaim := { program := "ytchheaadigagnaa", sum := "0c67f2d3b42fd36e4d1b99e1dbbee4fb91939a25b7c3447da060f69598201c20", func := "loop.example/graphviews/laws.FnExactKeptValid", spec := "fnExactKeptValid", unfollowed := true, recurses := true, apart := false, narrowed := true }
def FnExactKeptValidUptoSaid : Prop := fnExactKeptValidUptoRow.holds Try.pinned (OpenSpec.upto fnExactKeptValidSpec)

/-- 'laws.FnExactNodesBelow', WHERE WHAT IT READS IS OF BULK AT MOST 1048576: true; the input reads as it did. -/
def fnExactNodesBelowUptoRow : OpenClaim := { program := "ytchheaadigagnaa", sum := "0c67f2d3b42fd36e4d1b99e1dbbee4fb91939a25b7c3447da060f69598201c20", func := "loop.example/graphviews/laws.FnExactNodesBelow", spec := "fnExactNodesBelow", unfollowed := true, recurses := true, apart := false, narrowed := true }
def FnExactNodesBelowUptoSaid : Prop := fnExactNodesBelowUptoRow.holds Try.pinned (OpenSpec.upto fnExactNodesBelowSpec)

/-- 'laws.FnExactKeptPath', WHERE WHAT IT READS IS OF BULK AT MOST 1048576: true; the input reads as it did. -/
def fnExactKeptPathUptoRow : OpenClaim := { program := "ytchheaadigagnaa", sum := "0c67f2d3b42fd36e4d1b99e1dbbee4fb91939a25b7c3447da060f69598201c20", func := "loop.example/graphviews/laws.FnExactKeptPath", spec := "fnExactKeptPath", unfollowed := true, recurses := true, apart := false, narrowed := true }
def FnExactKeptPathUptoSaid : Prop := fnExactKeptPathUptoRow.holds Try.pinned (OpenSpec.upto fnExactKeptPathSpec)

/-- 'laws.FnExactTreeEdges', WHERE WHAT IT READS IS OF BULK AT MOST 1048576: true; the input reads as it did. -/
def fnExactTreeEdgesUptoRow : OpenClaim := { program := "ytchheaadigagnaa", sum := "0c67f2d3b42fd36e4d1b99e1dbbee4fb91939a25b7c3447da060f69598201c20", func := "loop.example/graphviews/laws.FnExactTreeEdges", spec := "fnExactTreeEdges", unfollowed := true, recurses := true, apart := false, narrowed := true }
def FnExactTreeEdgesUptoSaid : Prop := fnExactTreeEdgesUptoRow.holds Try.pinned (OpenSpec.upto fnExactTreeEdgesSpec)

end Rows
end Go.Proofs.Ytchheaadigagnaa
