/-
  No cell of these rows narrows 'for every input' (looked for: loops, veiled, ifaces, maps, wideKeys, modest, calm, conditions, laid).
  DERIVED. THE GIVEN ROWS OF THIS SEAT. 6 by the template 'for every input the law returns true; each argument reads behind the call as it read before'; 0 by the template 'total and deterministic' (their statements: YtneapbggnnndhaaTotals.lean).
  GIVEN WITH THE SEED: the statements are not yours to turn. If you find one false, say at which input.
  Laid BY PROGRAM, IN A SANDBOX (cutbox-rows.mjs): the forced cells as the released guide's own fill.sh prints them over the translation 20ddb3b8bb2e474c… (all of the seat's roots in one cut). By AI agents, Wed Nov 11 2026. No macro, syntax, notation, axiom, sorry.
-/
import Derived.Test.YtneapbggnnndhaaChecked
import GoSem.Claim
import GoSem.ClaimJoined
import GoSem.ClaimMapViews
import Derived.JoinedTies
import Derived.KernelRfl
namespace Go.Proofs.Ytneapbggnnndhaa
/- THE CELL 'sum', in the pinned program and in every row, IS THE sha256 OF THE DUMP (.gsa) THAT YtneapbggnnndhaaProg.lean LOADS. Nothing in Lean hashes anything: it is a label: what it is worth is what the hold of that sum in a sandbox is worth. -/
noncomputable def Try.pinned : Pinned := { name := "ytneapbggnnndhaa", sum := "20ddb3b8bb2e474ce44f6515ba41a16fc931fc99f121abbf4c85d22079962caf", checked := Try.checked }
namespace Rows
def none {H : Type} : Left H := { results := [], args := [] }

/-- 'laws.FnExactRanksOf': WHATEVER THE INPUT: true; the input reads as it did. -/
def fnExactRanksOfSpec : ChangeSpec := { name := "fnExactRanksOf", fn := fun _ => fun
  | [d1, d2] => { results := [.lit (.bool true)], args := [d1, d2] }
  | _ => none }
def fnExactRanksOfRow : OpenClaim := { program := "ytneapbggnnndhaa", sum := "20ddb3b8bb2e474ce44f6515ba41a16fc931fc99f121abbf4c85d22079962caf", func := "loop.example/graphviews/laws.FnExactRanksOf", spec := "fnExactRanksOf", unfollowed := true, recurses := true, apart := false }
def FnExactRanksOfSaid : Prop := fnExactRanksOfRow.holds Try.pinned (OpenSpec.ofChange fnExactRanksOfSpec)

/-- ITS FALSE NEIGHBOUR: 'it returns false'. Refute it at one input. -/
def fnExactRanksOfWrong : ChangeSpec := { name := "fnExactRanksOf", fn := fun _ => fun
  | [d1, d2] => { results := [.lit (.bool false)], args := [d1, d2] }
  | _ => none }
def FnExactRanksOfWrongFalsely : Prop := fnExactRanksOfRow.holds Try.pinned (OpenSpec.ofChange fnExactRanksOfWrong)

/-- 'laws.FnExactPathSame': WHATEVER THE INPUT: true; the input reads as it did. -/
def fnExactPathSameSpec : ChangeSpec := { name := "fnExactPathSame", fn := fun _ => fun
  | [d1, d2] => { results := [.lit (.bool true)], args := [d1, d2] }
  | _ => none }
def fnExactPathSameRow : OpenClaim := { program := "ytneapbggnnndhaa", sum := "20ddb3b8bb2e474ce44f6515ba41a16fc931fc99f121abbf4c85d22079962caf", func := "loop.example/graphviews/laws.FnExactPathSame", spec := "fnExactPathSame", apart := false }
def FnExactPathSameSaid : Prop := fnExactPathSameRow.holds Try.pinned (OpenSpec.ofChange fnExactPathSameSpec)

/-- ITS FALSE NEIGHBOUR: 'it returns false'. Refute it at one input. -/
def fnExactPathSameWrong : ChangeSpec := { name := "fnExactPathSame", fn := fun _ => fun
  | [d1, d2] => { results := [.lit (.bool false)], args := [d1, d2] }
  | _ => none }
def FnExactPathSameWrongFalsely : Prop := fnExactPathSameRow.holds Try.pinned (OpenSpec.ofChange fnExactPathSameWrong)

/-- 'laws.FnExactPathBefore': WHATEVER THE INPUT: true; the input reads as it did. -/
def fnExactPathBeforeSpec : ChangeSpec := { name := "fnExactPathBefore", fn := fun _ => fun
  | [d1, d2, d3] => { results := [.lit (.bool true)], args := [d1, d2, d3] }
  | _ => none }
def fnExactPathBeforeRow : OpenClaim := { program := "ytneapbggnnndhaa", sum := "20ddb3b8bb2e474ce44f6515ba41a16fc931fc99f121abbf4c85d22079962caf", func := "loop.example/graphviews/laws.FnExactPathBefore", spec := "fnExactPathBefore", unfollowed := true, recurses := true, apart := false }
def FnExactPathBeforeSaid : Prop := fnExactPathBeforeRow.holds Try.pinned (OpenSpec.ofChange fnExactPathBeforeSpec)

/-- ITS FALSE NEIGHBOUR: 'it returns false'. Refute it at one input. -/
def fnExactPathBeforeWrong : ChangeSpec := { name := "fnExactPathBefore", fn := fun _ => fun
  | [d1, d2, d3] => { results := [.lit (.bool false)], args := [d1, d2, d3] }
  | _ => none }
def FnExactPathBeforeWrongFalsely : Prop := fnExactPathBeforeRow.holds Try.pinned (OpenSpec.ofChange fnExactPathBeforeWrong)

/-- 'laws.FnExactSimplePaths': WHATEVER THE INPUT: true; the input reads as it did. -/
def fnExactSimplePathsSpec : ChangeSpec := { name := "fnExactSimplePaths", fn := fun _ => fun
  | [d1, d2, d3, d4] => { results := [.lit (.bool true)], args := [d1, d2, d3, d4] }
  | _ => none }
def fnExactSimplePathsRow : OpenClaim := { program := "ytneapbggnnndhaa", sum := "20ddb3b8bb2e474ce44f6515ba41a16fc931fc99f121abbf4c85d22079962caf", func := "loop.example/graphviews/laws.FnExactSimplePaths", spec := "fnExactSimplePaths", unfollowed := true, recurses := true, apart := false }
def FnExactSimplePathsSaid : Prop := fnExactSimplePathsRow.holds Try.pinned (OpenSpec.ofChange fnExactSimplePathsSpec)

/-- ITS FALSE NEIGHBOUR: 'it returns false'. Refute it at one input. -/
def fnExactSimplePathsWrong : ChangeSpec := { name := "fnExactSimplePaths", fn := fun _ => fun
  | [d1, d2, d3, d4] => { results := [.lit (.bool false)], args := [d1, d2, d3, d4] }
  | _ => none }
def FnExactSimplePathsWrongFalsely : Prop := fnExactSimplePathsRow.holds Try.pinned (OpenSpec.ofChange fnExactSimplePathsWrong)

/-- 'laws.FnExactBestPaths': WHATEVER THE INPUT: true; the input reads as it did. -/
def fnExactBestPathsSpec : ChangeSpec := { name := "fnExactBestPaths", fn := fun _ => fun
  | [d1, d2, d3, d4, d5] => { results := [.lit (.bool true)], args := [d1, d2, d3, d4, d5] }
  | _ => none }
def fnExactBestPathsRow : OpenClaim := { program := "ytneapbggnnndhaa", sum := "20ddb3b8bb2e474ce44f6515ba41a16fc931fc99f121abbf4c85d22079962caf", func := "loop.example/graphviews/laws.FnExactBestPaths", spec := "fnExactBestPaths", unfollowed := true, recurses := true, apart := false }
def FnExactBestPathsSaid : Prop := fnExactBestPathsRow.holds Try.pinned (OpenSpec.ofChange fnExactBestPathsSpec)

/-- ITS FALSE NEIGHBOUR: 'it returns false'. Refute it at one input. -/
def fnExactBestPathsWrong : ChangeSpec := { name := "fnExactBestPaths", fn := fun _ => fun
  | [d1, d2, d3, d4, d5] => { results := [.lit (.bool false)], args := [d1, d2, d3, d4, d5] }
  | _ => none }
def FnExactBestPathsWrongFalsely : Prop := fnExactBestPathsRow.holds Try.pinned (OpenSpec.ofChange fnExactBestPathsWrong)

/-- 'laws.FnExactPathRank': WHATEVER THE INPUT: true; the input reads as it did. -/
def fnExactPathRankSpec : ChangeSpec := { name := "fnExactPathRank", fn := fun _ => fun
  | [d1, d2, d3] => { results := [.lit (.bool true)], args := [d1, d2, d3] }
  | _ => none }
def fnExactPathRankRow : OpenClaim := { program := "ytneapbggnnndhaa", sum := "20ddb3b8bb2e474ce44f6515ba41a16fc931fc99f121abbf4c85d22079962caf", func := "loop.example/graphviews/laws.FnExactPathRank", spec := "fnExactPathRank", unfollowed := true, recurses := true, apart := false }
def FnExactPathRankSaid : Prop := fnExactPathRankRow.holds Try.pinned (OpenSpec.ofChange fnExactPathRankSpec)

/-- ITS FALSE NEIGHBOUR: 'it returns false'. Refute it at one input. -/
def fnExactPathRankWrong : ChangeSpec := { name := "fnExactPathRank", fn := fun _ => fun
  | [d1, d2, d3] => { results := [.lit (.bool false)], args := [d1, d2, d3] }
  | _ => none }
def FnExactPathRankWrongFalsely : Prop := fnExactPathRankRow.holds Try.pinned (OpenSpec.ofChange fnExactPathRankWrong)

/- THE SECOND FORM. 'bulk': how many values and letters a reading holds, each counted each time it is reached (what is shared counts as often as it is met; a slice's spare places count too). A statement '..UptoSaid' is the law's where the arguments, and the package variables that the reading takes, are together of bulk at most 1048576: NARROWER than '..Said'. Prove '..Said' where nothing that the law and all that it calls make is longer than what came in: it says more and counts as full. Else prove '..UptoSaid'. A law counts once. -/
mutual
def uptoBulk {H : Type} : DataW H → Nat
  | .lit (.string bytes) => bytes.length + 1
  | .lit _ => 1
  | .nil => 1
  | .ptr d => uptoBulk d + 1
  | .slice elems spare => uptoBulkAll elems + uptoBulkAll spare + 1
  | .agg parts => uptoBulkAll parts + 1
  | .iface _ d => uptoBulk d + 1
  | .map entries => uptoBulkEntries entries + 1
  | .held _ => 1
def uptoBulkAll {H : Type} : List (DataW H) → Nat
  | [] => 0
  | d :: r => uptoBulk d + uptoBulkAll r
def uptoBulkEntries {H : Type} : List (Lit × DataW H) → Nat
  | [] => 0
  | x :: r => uptoBulkEntry x + uptoBulkEntries r
def uptoBulkEntry {H : Type} : Lit × DataW H → Nat
  | (.string bytes, d) => bytes.length + uptoBulk d + 1
  | (_, d) => uptoBulk d + 1
 end
def uptoSmall : (H : Type) → List (DataW H) → Bool := fun _ ds => decide (uptoBulkAll ds ≤ 1048576)
def OpenSpec.upto (s : _root_.Go.ChangeSpec) : _root_.Go.OpenSpec := { _root_.Go.OpenSpec.ofChange s with cond := some uptoSmall }

/-- 'laws.FnExactRanksOf', WHERE WHAT IT READS IS OF BULK AT MOST 1048576: true; the input reads as it did. -/
def fnExactRanksOfUptoRow : OpenClaim := { program := "ytneapbggnnndhaa", sum := "20ddb3b8bb2e474ce44f6515ba41a16fc931fc99f121abbf4c85d22079962caf", func := "loop.example/graphviews/laws.FnExactRanksOf", spec := "fnExactRanksOf", unfollowed := true, recurses := true, apart := false, narrowed := true }
def FnExactRanksOfUptoSaid : Prop := fnExactRanksOfUptoRow.holds Try.pinned (OpenSpec.upto fnExactRanksOfSpec)

/-- 'laws.FnExactPathSame', WHERE WHAT IT READS IS OF BULK AT MOST 1048576: true; the input reads as it did. -/
def fnExactPathSameUptoRow : OpenClaim := { program := "ytneapbggnnndhaa", sum := "20ddb3b8bb2e474ce44f6515ba41a16fc931fc99f121abbf4c85d22079962caf", func := "loop.example/graphviews/laws.FnExactPathSame", spec := "fnExactPathSame", apart := false, narrowed := true }
def FnExactPathSameUptoSaid : Prop := fnExactPathSameUptoRow.holds Try.pinned (OpenSpec.upto fnExactPathSameSpec)

/-- 'laws.FnExactPathBefore', WHERE WHAT IT READS IS OF BULK AT MOST 1048576: true; the input reads as it did. -/
def fnExactPathBeforeUptoRow : OpenClaim := { program := "ytneapbggnnndhaa", sum := "20ddb3b8bb2e474ce44f6515ba41a16fc931fc99f121abbf4c85d22079962caf", func := "loop.example/graphviews/laws.FnExactPathBefore", spec := "fnExactPathBefore", unfollowed := true, recurses := true, apart := false, narrowed := true }
def FnExactPathBeforeUptoSaid : Prop := fnExactPathBeforeUptoRow.holds Try.pinned (OpenSpec.upto fnExactPathBeforeSpec)

/-- 'laws.FnExactSimplePaths', WHERE WHAT IT READS IS OF BULK AT MOST 1048576: true; the input reads as it did. -/
def fnExactSimplePathsUptoRow : OpenClaim := { program := "ytneapbggnnndhaa", sum := "20ddb3b8bb2e474ce44f6515ba41a16fc931fc99f121abbf4c85d22079962caf", func := "loop.example/graphviews/laws.FnExactSimplePaths", spec := "fnExactSimplePaths", unfollowed := true, recurses := true, apart := false, narrowed := true }
def FnExactSimplePathsUptoSaid : Prop := fnExactSimplePathsUptoRow.holds Try.pinned (OpenSpec.upto fnExactSimplePathsSpec)

/-- 'laws.FnExactBestPaths', WHERE WHAT IT READS IS OF BULK AT MOST 1048576: true; the input reads as it did. -/
def fnExactBestPathsUptoRow : OpenClaim := { program := "ytneapbggnnndhaa", sum := "20ddb3b8bb2e474ce44f6515ba41a16fc931fc99f121abbf4c85d22079962caf", func := "loop.example/graphviews/laws.FnExactBestPaths", spec := "fnExactBestPaths", unfollowed := true, recurses := true, apart := false, narrowed := true }
def FnExactBestPathsUptoSaid : Prop := fnExactBestPathsUptoRow.holds Try.pinned (OpenSpec.upto fnExactBestPathsSpec)

/-- 'laws.FnExactPathRank', WHERE WHAT IT READS IS OF BULK AT MOST 1048576: true; the input reads as it did. -/
def fnExactPathRankUptoRow : OpenClaim := { program := "ytneapbggnnndhaa", sum := "20ddb3b8bb2e474ce44f6515ba41a16fc931fc99f121abbf4c85d22079962caf", func := "loop.example/graphviews/laws.FnExactPathRank", spec := "fnExactPathRank", unfollowed := true, recurses := true, apart := false, narrowed := true }
def FnExactPathRankUptoSaid : Prop := fnExactPathRankUptoRow.holds Try.pinned (OpenSpec.upto fnExactPathRankSpec)

end Rows
end Go.Proofs.Ytneapbggnnndhaa
