/-
  No cell of these rows narrows 'for every input' (looked for: loops, veiled, ifaces, maps, wideKeys, modest, calm, conditions, laid).
  DERIVED. THE GIVEN ROWS OF THIS SEAT. 10 by the template 'for every input the law returns true; each argument reads behind the call as it read before'; 0 by the template 'total and deterministic' (their statements: YtdblcaeeepkebaaTotals.lean).
  GIVEN WITH THE SEED: the statements are not yours to turn. If you find one false, say at which input.
  Laid BY PROGRAM, IN A SANDBOX (cutbox-rows.mjs): the forced cells as the released guide's own fill.sh prints them over the translation 2539e9cafab4de13… (all of the seat's roots in one cut). By AI agents, Wed Nov 11 2026. No macro, syntax, notation, axiom, sorry.
-/
import Derived.Test.YtdblcaeeepkebaaChecked
import GoSem.Claim
import GoSem.ClaimJoined
import GoSem.ClaimMapViews
import Derived.JoinedTies
import Derived.KernelRfl
namespace Go.Proofs.Ytdblcaeeepkebaa
/- THE CELL 'sum', in the pinned program and in every row, IS THE sha256 OF THE DUMP (.gsa) THAT YtdblcaeeepkebaaProg.lean LOADS. Nothing in Lean hashes anything: it is a label: what it is worth is what the hold of that sum in a sandbox is worth. -/
noncomputable def Try.pinned : Pinned := { name := "ytdblcaeeepkebaa", sum := "2539e9cafab4de13a17f0695926a701e8f7b2b91257f6be383a8db0012b9211d", checked := Try.checked }
namespace Rows
def none {H : Type} : Left H := { results := [], args := [] }

/-- 'laws.FnExactProofOf': WHATEVER THE INPUT: true; the input reads as it did. -/
def fnExactProofOfSpec : ChangeSpec := { name := "fnExactProofOf", fn := fun _ => fun
  | [d1, d2, d3] => { results := [.lit (.bool true)], args := [d1, d2, d3] }
  | _ => none }
def fnExactProofOfRow : OpenClaim := { program := "ytdblcaeeepkebaa", sum := "2539e9cafab4de13a17f0695926a701e8f7b2b91257f6be383a8db0012b9211d", func := "loop.example/graphviews/laws.FnExactProofOf", spec := "fnExactProofOf", unfollowed := true, recurses := true, apart := false }
def FnExactProofOfSaid : Prop := fnExactProofOfRow.holds Try.pinned (OpenSpec.ofChange fnExactProofOfSpec)

/-- ITS FALSE NEIGHBOUR: 'it returns false'. Refute it at one input. -/
def fnExactProofOfWrong : ChangeSpec := { name := "fnExactProofOf", fn := fun _ => fun
  | [d1, d2, d3] => { results := [.lit (.bool false)], args := [d1, d2, d3] }
  | _ => none }
def FnExactProofOfWrongFalsely : Prop := fnExactProofOfRow.holds Try.pinned (OpenSpec.ofChange fnExactProofOfWrong)

/-- 'laws.FnExactTightEdges': WHATEVER THE INPUT: true; the input reads as it did. -/
def fnExactTightEdgesSpec : ChangeSpec := { name := "fnExactTightEdges", fn := fun _ => fun
  | [d1, d2] => { results := [.lit (.bool true)], args := [d1, d2] }
  | _ => none }
def fnExactTightEdgesRow : OpenClaim := { program := "ytdblcaeeepkebaa", sum := "2539e9cafab4de13a17f0695926a701e8f7b2b91257f6be383a8db0012b9211d", func := "loop.example/graphviews/laws.FnExactTightEdges", spec := "fnExactTightEdges", unfollowed := true, recurses := true, apart := false }
def FnExactTightEdgesSaid : Prop := fnExactTightEdgesRow.holds Try.pinned (OpenSpec.ofChange fnExactTightEdgesSpec)

/-- ITS FALSE NEIGHBOUR: 'it returns false'. Refute it at one input. -/
def fnExactTightEdgesWrong : ChangeSpec := { name := "fnExactTightEdges", fn := fun _ => fun
  | [d1, d2] => { results := [.lit (.bool false)], args := [d1, d2] }
  | _ => none }
def FnExactTightEdgesWrongFalsely : Prop := fnExactTightEdgesRow.holds Try.pinned (OpenSpec.ofChange fnExactTightEdgesWrong)

/-- 'laws.FnExactFirstFault': WHATEVER THE INPUT: true; the input reads as it did. -/
def fnExactFirstFaultSpec : ChangeSpec := { name := "fnExactFirstFault", fn := fun _ => fun
  | [d1, d2] => { results := [.lit (.bool true)], args := [d1, d2] }
  | _ => none }
def fnExactFirstFaultRow : OpenClaim := { program := "ytdblcaeeepkebaa", sum := "2539e9cafab4de13a17f0695926a701e8f7b2b91257f6be383a8db0012b9211d", func := "loop.example/graphviews/laws.FnExactFirstFault", spec := "fnExactFirstFault", unfollowed := true, recurses := true, apart := false }
def FnExactFirstFaultSaid : Prop := fnExactFirstFaultRow.holds Try.pinned (OpenSpec.ofChange fnExactFirstFaultSpec)

/-- ITS FALSE NEIGHBOUR: 'it returns false'. Refute it at one input. -/
def fnExactFirstFaultWrong : ChangeSpec := { name := "fnExactFirstFault", fn := fun _ => fun
  | [d1, d2] => { results := [.lit (.bool false)], args := [d1, d2] }
  | _ => none }
def FnExactFirstFaultWrongFalsely : Prop := fnExactFirstFaultRow.holds Try.pinned (OpenSpec.ofChange fnExactFirstFaultWrong)

/-- 'laws.FnExactBetterPath': WHATEVER THE INPUT: true; the input reads as it did. -/
def fnExactBetterPathSpec : ChangeSpec := { name := "fnExactBetterPath", fn := fun _ => fun
  | [d1, d2, d3] => { results := [.lit (.bool true)], args := [d1, d2, d3] }
  | _ => none }
def fnExactBetterPathRow : OpenClaim := { program := "ytdblcaeeepkebaa", sum := "2539e9cafab4de13a17f0695926a701e8f7b2b91257f6be383a8db0012b9211d", func := "loop.example/graphviews/laws.FnExactBetterPath", spec := "fnExactBetterPath", unfollowed := true, recurses := true, apart := false }
def FnExactBetterPathSaid : Prop := fnExactBetterPathRow.holds Try.pinned (OpenSpec.ofChange fnExactBetterPathSpec)

/-- ITS FALSE NEIGHBOUR: 'it returns false'. Refute it at one input. -/
def fnExactBetterPathWrong : ChangeSpec := { name := "fnExactBetterPath", fn := fun _ => fun
  | [d1, d2, d3] => { results := [.lit (.bool false)], args := [d1, d2, d3] }
  | _ => none }
def FnExactBetterPathWrongFalsely : Prop := fnExactBetterPathRow.holds Try.pinned (OpenSpec.ofChange fnExactBetterPathWrong)

/-- 'laws.FnExactCountBest': WHATEVER THE INPUT: true; the input reads as it did. -/
def fnExactCountBestSpec : ChangeSpec := { name := "fnExactCountBest", fn := fun _ => fun
  | [d1, d2, d3] => { results := [.lit (.bool true)], args := [d1, d2, d3] }
  | _ => none }
def fnExactCountBestRow : OpenClaim := { program := "ytdblcaeeepkebaa", sum := "2539e9cafab4de13a17f0695926a701e8f7b2b91257f6be383a8db0012b9211d", func := "loop.example/graphviews/laws.FnExactCountBest", spec := "fnExactCountBest", apart := false }
def FnExactCountBestSaid : Prop := fnExactCountBestRow.holds Try.pinned (OpenSpec.ofChange fnExactCountBestSpec)

/-- ITS FALSE NEIGHBOUR: 'it returns false'. Refute it at one input. -/
def fnExactCountBestWrong : ChangeSpec := { name := "fnExactCountBest", fn := fun _ => fun
  | [d1, d2, d3] => { results := [.lit (.bool false)], args := [d1, d2, d3] }
  | _ => none }
def FnExactCountBestWrongFalsely : Prop := fnExactCountBestRow.holds Try.pinned (OpenSpec.ofChange fnExactCountBestWrong)

/-- 'laws.FnExactKeptValid': WHATEVER THE INPUT: true; the input reads as it did. -/
def fnExactKeptValidSpec : ChangeSpec := { name := "fnExactKeptValid", fn := fun _ => fun
  | [d] => { results := [.lit (.bool true)], args := [d] }
  | _ => none }
def fnExactKeptValidRow : OpenClaim := { program := "ytdblcaeeepkebaa", sum := "2539e9cafab4de13a17f0695926a701e8f7b2b91257f6be383a8db0012b9211d", func := "loop.example/graphviews/laws.FnExactKeptValid", spec := "fnExactKeptValid", unfollowed := true, recurses := true, apart := false }
def FnExactKeptValidSaid : Prop := fnExactKeptValidRow.holds Try.pinned (OpenSpec.ofChange fnExactKeptValidSpec)

/-- ITS FALSE NEIGHBOUR: 'it returns false'. Refute it at one input. -/
def fnExactKeptValidWrong : ChangeSpec := { name := "fnExactKeptValid", fn := fun _ => fun
  | [d] => { results := [.lit (.bool false)], args := [d] }
  | _ => none }
def FnExactKeptValidWrongFalsely : Prop := fnExactKeptValidRow.holds Try.pinned (OpenSpec.ofChange fnExactKeptValidWrong)

/-- 'laws.FnExactNodesBelow': WHATEVER THE INPUT: true; the input reads as it did. -/
def fnExactNodesBelowSpec : ChangeSpec := { name := "fnExactNodesBelow", fn := fun _ => fun
  | [d1, d2] => { results := [.lit (.bool true)], args := [d1, d2] }
  | _ => none }
def fnExactNodesBelowRow : OpenClaim := { program := "ytdblcaeeepkebaa", sum := "2539e9cafab4de13a17f0695926a701e8f7b2b91257f6be383a8db0012b9211d", func := "loop.example/graphviews/laws.FnExactNodesBelow", spec := "fnExactNodesBelow", unfollowed := true, recurses := true, apart := false }
def FnExactNodesBelowSaid : Prop := fnExactNodesBelowRow.holds Try.pinned (OpenSpec.ofChange fnExactNodesBelowSpec)

/-- ITS FALSE NEIGHBOUR: 'it returns false'. Refute it at one input. -/
def fnExactNodesBelowWrong : ChangeSpec := { name := "fnExactNodesBelow", fn := fun _ => fun
  | [d1, d2] => { results := [.lit (.bool false)], args := [d1, d2] }
  | _ => none }
def FnExactNodesBelowWrongFalsely : Prop := fnExactNodesBelowRow.holds Try.pinned (OpenSpec.ofChange fnExactNodesBelowWrong)

/-- 'laws.FnExactKeptPath': WHATEVER THE INPUT: true; the input reads as it did. -/
def fnExactKeptPathSpec : ChangeSpec := { name := "fnExactKeptPath", fn := fun _ => fun
  | [d1, d2] => { results := [.lit (.bool true)], args := [d1, d2] }
  | _ => none }
def fnExactKeptPathRow : OpenClaim := { program := "ytdblcaeeepkebaa", sum := "2539e9cafab4de13a17f0695926a701e8f7b2b91257f6be383a8db0012b9211d", func := "loop.example/graphviews/laws.FnExactKeptPath", spec := "fnExactKeptPath", unfollowed := true, recurses := true, apart := false }
def FnExactKeptPathSaid : Prop := fnExactKeptPathRow.holds Try.pinned (OpenSpec.ofChange fnExactKeptPathSpec)

/-- ITS FALSE NEIGHBOUR: 'it returns false'. Refute it at one input. -/
def fnExactKeptPathWrong : ChangeSpec := { name := "fnExactKeptPath", fn := fun _ => fun
  | [d1, d2] => { results := [.lit (.bool false)], args := [d1, d2] }
  | _ => none }
def FnExactKeptPathWrongFalsely : Prop := fnExactKeptPathRow.holds Try.pinned (OpenSpec.ofChange fnExactKeptPathWrong)

/-- 'laws.FnExactTreeEdges': WHATEVER THE INPUT: true; the input reads as it did. -/
def fnExactTreeEdgesSpec : ChangeSpec := { name := "fnExactTreeEdges", fn := fun _ => fun
  | [d] => { results := [.lit (.bool true)], args := [d] }
  | _ => none }
def fnExactTreeEdgesRow : OpenClaim := { program := "ytdblcaeeepkebaa", sum := "2539e9cafab4de13a17f0695926a701e8f7b2b91257f6be383a8db0012b9211d", func := "loop.example/graphviews/laws.FnExactTreeEdges", spec := "fnExactTreeEdges", unfollowed := true, recurses := true, apart := false }
def FnExactTreeEdgesSaid : Prop := fnExactTreeEdgesRow.holds Try.pinned (OpenSpec.ofChange fnExactTreeEdgesSpec)

/-- ITS FALSE NEIGHBOUR: 'it returns false'. Refute it at one input. -/
def fnExactTreeEdgesWrong : ChangeSpec := { name := "fnExactTreeEdges", fn := fun _ => fun
  | [d] => { results := [.lit (.bool false)], args := [d] }
  | _ => none }
def FnExactTreeEdgesWrongFalsely : Prop := fnExactTreeEdgesRow.holds Try.pinned (OpenSpec.ofChange fnExactTreeEdgesWrong)

/-- 'laws.FnExactFairRounds': WHATEVER THE INPUT: true; the input reads as it did. -/
def fnExactFairRoundsSpec : ChangeSpec := { name := "fnExactFairRounds", fn := fun _ => fun
  | [d1, d2] => { results := [.lit (.bool true)], args := [d1, d2] }
  | _ => none }
def fnExactFairRoundsRow : OpenClaim := { program := "ytdblcaeeepkebaa", sum := "2539e9cafab4de13a17f0695926a701e8f7b2b91257f6be383a8db0012b9211d", func := "loop.example/graphviews/laws.FnExactFairRounds", spec := "fnExactFairRounds", apart := false }
def FnExactFairRoundsSaid : Prop := fnExactFairRoundsRow.holds Try.pinned (OpenSpec.ofChange fnExactFairRoundsSpec)

/-- ITS FALSE NEIGHBOUR: 'it returns false'. Refute it at one input. -/
def fnExactFairRoundsWrong : ChangeSpec := { name := "fnExactFairRounds", fn := fun _ => fun
  | [d1, d2] => { results := [.lit (.bool false)], args := [d1, d2] }
  | _ => none }
def FnExactFairRoundsWrongFalsely : Prop := fnExactFairRoundsRow.holds Try.pinned (OpenSpec.ofChange fnExactFairRoundsWrong)

/- THE SECOND FORM. 'bulk': how many values and letters a reading holds, each counted each time it is reached (what is shared counts as often as it is met; a slice's spare places count too). A statement '..UptoSaid' is the law's where the arguments, and the package variables that the reading takes, are together of bulk at most 1048576: NARROWER than '..Said'. Prove '..Said' where nothing that the law and all that it calls make is longer than what came in: it says more and counts as full. Else prove '..UptoSaid'. A law counts once. -/
mutual
def uptoBulk {H : Type} : DataW H → Nat
  | .lit (.string bytes) => bytes.length + 1
  | .lit _ => 1
  | .nil => 1
  | .ptr d => uptoBulk d + 1
  | .slice elems spare => uptoBulkAll elems + uptoBulkAll spare + 1
  | .agg parts => uptoBulkAll parts + 1
  | .iface _ d => uptoBulk d + 1
  | .map entries => uptoBulkEntries entries + 1
  | .held _ => 1
def uptoBulkAll {H : Type} : List (DataW H) → Nat
  | [] => 0
  | d :: r => uptoBulk d + uptoBulkAll r
def uptoBulkEntries {H : Type} : List (Lit × DataW H) → Nat
  | [] => 0
  | x :: r => uptoBulkEntry x + uptoBulkEntries r
def uptoBulkEntry {H : Type} : Lit × DataW H → Nat
  | (.string bytes, d) => bytes.length + uptoBulk d + 1
  | (_, d) => uptoBulk d + 1
 end
def uptoSmall : (H : Type) → List (DataW H) → Bool := fun _ ds => decide (uptoBulkAll ds ≤ 1048576)
def OpenSpec.upto (s : _root_.Go.ChangeSpec) : _root_.Go.OpenSpec := { _root_.Go.OpenSpec.ofChange s with cond := some uptoSmall }

/-- 'laws.FnExactProofOf', WHERE WHAT IT READS IS OF BULK AT MOST 1048576: true; the input reads as it did. -/
def fnExactProofOfUptoRow : OpenClaim := { program := "ytdblcaeeepkebaa", sum := "2539e9cafab4de13a17f0695926a701e8f7b2b91257f6be383a8db0012b9211d", func := "loop.example/graphviews/laws.FnExactProofOf", spec := "fnExactProofOf", unfollowed := true, recurses := true, apart := false, narrowed := true }
def FnExactProofOfUptoSaid : Prop := fnExactProofOfUptoRow.holds Try.pinned (OpenSpec.upto fnExactProofOfSpec)

/-- 'laws.FnExactTightEdges', WHERE WHAT IT READS IS OF BULK AT MOST 1048576: true; the input reads as it did. -/
def fnExactTightEdgesUptoRow : OpenClaim := { program := "ytdblcaeeepkebaa", sum := "2539e9cafab4de13a17f0695926a701e8f7b2b91257f6be383a8db0012b9211d", func := "loop.example/graphviews/laws.FnExactTightEdges", spec := "fnExactTightEdges", unfollowed := true, recurses := true, apart := false, narrowed := true }
def FnExactTightEdgesUptoSaid : Prop := fnExactTightEdgesUptoRow.holds Try.pinned (OpenSpec.upto fnExactTightEdgesSpec)

/-- 'laws.FnExactFirstFault', WHERE WHAT IT READS IS OF BULK AT MOST 1048576: true; the input reads as it did. -/
def fnExactFirstFaultUptoRow : OpenClaim := { program := "ytdblcaeeepkebaa", sum := "2539e9cafab4de13a17f0695926a701e8f7b2b91257f6be383a8db0012b9211d", func := "loop.example/graphviews/laws.FnExactFirstFault", spec := "fnExactFirstFault", unfollowed := true, recurses := true, apart := false, narrowed := true }
def FnExactFirstFaultUptoSaid : Prop := fnExactFirstFaultUptoRow.holds Try.pinned (OpenSpec.upto fnExactFirstFaultSpec)

/-- 'laws.FnExactBetterPath', WHERE WHAT IT READS IS OF BULK AT MOST 1048576: true; the input reads as it did. -/
def fnExactBetterPathUptoRow : OpenClaim := { program := "ytdblcaeeepkebaa", sum := "2539e9cafab4de13a17f0695926a701e8f7b2b91257f6be383a8db0012b9211d", func := "loop.example/graphviews/laws.FnExactBetterPath", spec := "fnExactBetterPath", unfollowed := true, recurses := true, apart := false, narrowed := true }
def FnExactBetterPathUptoSaid : Prop := fnExactBetterPathUptoRow.holds Try.pinned (OpenSpec.upto fnExactBetterPathSpec)

/-- 'laws.FnExactCountBest', WHERE WHAT IT READS IS OF BULK AT MOST 1048576: true; the input reads as it did. -/
def fnExactCountBestUptoRow : OpenClaim := { program := "ytdblcaeeepkebaa", sum := "2539e9cafab4de13a17f0695926a701e8f7b2b91257f6be383a8db0012b9211d", func := "loop.example/graphviews/laws.FnExactCountBest", spec := "fnExactCountBest", apart := false, narrowed := true }
def FnExactCountBestUptoSaid : Prop := fnExactCountBestUptoRow.holds Try.pinned (OpenSpec.upto fnExactCountBestSpec)

/-- 'laws.FnExactKeptValid', WHERE WHAT IT READS IS OF BULK AT MOST 1048576: true; the input reads as it did. -/
def fnExactKeptValidUptoRow : OpenClaim := { program := "ytdblcaeeepkebaa", sum := "2539e9cafab4de13a17f0695926a701e8f7b2b91257f6be383a8db0012b9211d", func := "loop.example/graphviews/laws.FnExactKeptValid", spec := "fnExactKeptValid", unfollowed := true, recurses := true, apart := false, narrowed := true }
def FnExactKeptValidUptoSaid : Prop := fnExactKeptValidUptoRow.holds Try.pinned (OpenSpec.upto fnExactKeptValidSpec)

/-- 'laws.FnExactNodesBelow', WHERE WHAT IT READS IS OF BULK AT MOST 1048576: true; the input reads as it did. -/
def fnExactNodesBelowUptoRow : OpenClaim := { program := "ytdblcaeeepkebaa", sum := "2539e9cafab4de13a17f0695926a701e8f7b2b91257f6be383a8db0012b9211d", func := "loop.example/graphviews/laws.FnExactNodesBelow", spec := "fnExactNodesBelow", unfollowed := true, recurses := true, apart := false, narrowed := true }
def FnExactNodesBelowUptoSaid : Prop := fnExactNodesBelowUptoRow.holds Try.pinned (OpenSpec.upto fnExactNodesBelowSpec)

/-- 'laws.FnExactKeptPath', WHERE WHAT IT READS IS OF BULK AT MOST 1048576: true; the input reads as it did. -/
def fnExactKeptPathUptoRow : OpenClaim := { program := "ytdblcaeeepkebaa", sum := "2539e9cafab4de13a17f0695926a701e8f7b2b91257f6be383a8db0012b9211d", func := "loop.example/graphviews/laws.FnExactKeptPath", spec := "fnExactKeptPath", unfollowed := true, recurses := true, apart := false, narrowed := true }
def FnExactKeptPathUptoSaid : Prop := fnExactKeptPathUptoRow.holds Try.pinned (OpenSpec.upto fnExactKeptPathSpec)

/-- 'laws.FnExactTreeEdges', WHERE WHAT IT READS IS OF BULK AT MOST 1048576: true; the input reads as it did. -/
def fnExactTreeEdgesUptoRow : OpenClaim := { program := "ytdblcaeeepkebaa", sum := "2539e9cafab4de13a17f0695926a701e8f7b2b91257f6be383a8db0012b9211d", func := "loop.example/graphviews/laws.FnExactTreeEdges", spec := "fnExactTreeEdges", unfollowed := true, recurses := true, apart := false, narrowed := true }
def FnExactTreeEdgesUptoSaid : Prop := fnExactTreeEdgesUptoRow.holds Try.pinned (OpenSpec.upto fnExactTreeEdgesSpec)

/-- 'laws.FnExactFairRounds', WHERE WHAT IT READS IS OF BULK AT MOST 1048576: true; the input reads as it did. -/
def fnExactFairRoundsUptoRow : OpenClaim := { program := "ytdblcaeeepkebaa", sum := "2539e9cafab4de13a17f0695926a701e8f7b2b91257f6be383a8db0012b9211d", func := "loop.example/graphviews/laws.FnExactFairRounds", spec := "fnExactFairRounds", apart := false, narrowed := true }
def FnExactFairRoundsUptoSaid : Prop := fnExactFairRoundsUptoRow.holds Try.pinned (OpenSpec.upto fnExactFairRoundsSpec)

end Rows
end Go.Proofs.Ytdblcaeeepkebaa
