/-
  No cell of these rows narrows 'for every input' (looked for: loops, veiled, ifaces, maps, wideKeys, modest, calm, conditions, laid).
  DERIVED. THE GIVEN ROWS OF THIS SEAT. 11 by the template 'for every input the law returns true; each argument reads behind the call as it read before'; 0 by the template 'total and deterministic' (their statements: YtjcfefpcilhelaaTotals.lean).
  GIVEN WITH THE SEED: the statements are not yours to turn. If you find one false, say at which input.
  Laid BY PROGRAM, IN A SANDBOX (cutbox-rows.mjs): the forced cells as the released guide's own fill.sh prints them over the translation 960d4dd4bb030f48… (all of the seat's roots in one cut). By AI agents, Wed Nov 11 2026. No macro, syntax, notation, axiom, sorry.
-/
import Derived.Test.YtjcfefpcilhelaaChecked
import GoSem.Claim
import GoSem.ClaimJoined
import GoSem.ClaimMapViews
import Derived.JoinedTies
import Derived.KernelRfl
namespace Go.Proofs.Ytjcfefpcilhelaa
/- THE CELL 'sum', in the pinned program and in every row, IS THE sha256 OF THE DUMP (.gsa) THAT YtjcfefpcilhelaaProg.lean LOADS. Nothing in Lean hashes anything: it is a label: what it is worth is what the hold of that sum in a sandbox is worth. -/
noncomputable def Try.pinned : Pinned := { name := "ytjcfefpcilhelaa", sum := "960d4dd4bb030f4863ef75c96a0e83546d51a8127d9295a05a29f398ad383124", checked := Try.checked }
namespace Rows
def none {H : Type} : Left H := { results := [], args := [] }

/-- 'laws.FnTightEdges': WHATEVER THE INPUT: true; the input reads as it did. -/
def fnTightEdgesSpec : ChangeSpec := { name := "fnTightEdges", fn := fun _ => fun
  | [d] => { results := [.lit (.bool true)], args := [d] }
  | _ => none }
def fnTightEdgesRow : OpenClaim := { program := "ytjcfefpcilhelaa", sum := "960d4dd4bb030f4863ef75c96a0e83546d51a8127d9295a05a29f398ad383124", func := "loop.example/graphviews/laws.FnTightEdges", spec := "fnTightEdges", unfollowed := true, recurses := true, apart := false }
def FnTightEdgesSaid : Prop := fnTightEdgesRow.holds Try.pinned (OpenSpec.ofChange fnTightEdgesSpec)

/-- ITS FALSE NEIGHBOUR: 'it returns false'. Refute it at one input. -/
def fnTightEdgesWrong : ChangeSpec := { name := "fnTightEdges", fn := fun _ => fun
  | [d] => { results := [.lit (.bool false)], args := [d] }
  | _ => none }
def FnTightEdgesWrongFalsely : Prop := fnTightEdgesRow.holds Try.pinned (OpenSpec.ofChange fnTightEdgesWrong)

/-- 'laws.FnTightLoose': WHATEVER THE INPUT: true; the input reads as it did. -/
def fnTightLooseSpec : ChangeSpec := { name := "fnTightLoose", fn := fun _ => fun
  | [d] => { results := [.lit (.bool true)], args := [d] }
  | _ => none }
def fnTightLooseRow : OpenClaim := { program := "ytjcfefpcilhelaa", sum := "960d4dd4bb030f4863ef75c96a0e83546d51a8127d9295a05a29f398ad383124", func := "loop.example/graphviews/laws.FnTightLoose", spec := "fnTightLoose", unfollowed := true, recurses := true, apart := false }
def FnTightLooseSaid : Prop := fnTightLooseRow.holds Try.pinned (OpenSpec.ofChange fnTightLooseSpec)

/-- ITS FALSE NEIGHBOUR: 'it returns false'. Refute it at one input. -/
def fnTightLooseWrong : ChangeSpec := { name := "fnTightLoose", fn := fun _ => fun
  | [d] => { results := [.lit (.bool false)], args := [d] }
  | _ => none }
def FnTightLooseWrongFalsely : Prop := fnTightLooseRow.holds Try.pinned (OpenSpec.ofChange fnTightLooseWrong)

/-- 'laws.FnFirstFault': WHATEVER THE INPUT: true; the input reads as it did. -/
def fnFirstFaultSpec : ChangeSpec := { name := "fnFirstFault", fn := fun _ => fun
  | [d] => { results := [.lit (.bool true)], args := [d] }
  | _ => none }
def fnFirstFaultRow : OpenClaim := { program := "ytjcfefpcilhelaa", sum := "960d4dd4bb030f4863ef75c96a0e83546d51a8127d9295a05a29f398ad383124", func := "loop.example/graphviews/laws.FnFirstFault", spec := "fnFirstFault", unfollowed := true, recurses := true, apart := false }
def FnFirstFaultSaid : Prop := fnFirstFaultRow.holds Try.pinned (OpenSpec.ofChange fnFirstFaultSpec)

/-- ITS FALSE NEIGHBOUR: 'it returns false'. Refute it at one input. -/
def fnFirstFaultWrong : ChangeSpec := { name := "fnFirstFault", fn := fun _ => fun
  | [d] => { results := [.lit (.bool false)], args := [d] }
  | _ => none }
def FnFirstFaultWrongFalsely : Prop := fnFirstFaultRow.holds Try.pinned (OpenSpec.ofChange fnFirstFaultWrong)

/-- 'laws.FnFaultPath': WHATEVER THE INPUT: true; the input reads as it did. -/
def fnFaultPathSpec : ChangeSpec := { name := "fnFaultPath", fn := fun _ => fun
  | [d] => { results := [.lit (.bool true)], args := [d] }
  | _ => none }
def fnFaultPathRow : OpenClaim := { program := "ytjcfefpcilhelaa", sum := "960d4dd4bb030f4863ef75c96a0e83546d51a8127d9295a05a29f398ad383124", func := "loop.example/graphviews/laws.FnFaultPath", spec := "fnFaultPath", unfollowed := true, recurses := true, apart := false }
def FnFaultPathSaid : Prop := fnFaultPathRow.holds Try.pinned (OpenSpec.ofChange fnFaultPathSpec)

/-- ITS FALSE NEIGHBOUR: 'it returns false'. Refute it at one input. -/
def fnFaultPathWrong : ChangeSpec := { name := "fnFaultPath", fn := fun _ => fun
  | [d] => { results := [.lit (.bool false)], args := [d] }
  | _ => none }
def FnFaultPathWrongFalsely : Prop := fnFaultPathRow.holds Try.pinned (OpenSpec.ofChange fnFaultPathWrong)

/-- 'laws.FnBetterPath': WHATEVER THE INPUT: true; the input reads as it did. -/
def fnBetterPathSpec : ChangeSpec := { name := "fnBetterPath", fn := fun _ => fun
  | [d] => { results := [.lit (.bool true)], args := [d] }
  | _ => none }
def fnBetterPathRow : OpenClaim := { program := "ytjcfefpcilhelaa", sum := "960d4dd4bb030f4863ef75c96a0e83546d51a8127d9295a05a29f398ad383124", func := "loop.example/graphviews/laws.FnBetterPath", spec := "fnBetterPath", unfollowed := true, recurses := true, apart := false }
def FnBetterPathSaid : Prop := fnBetterPathRow.holds Try.pinned (OpenSpec.ofChange fnBetterPathSpec)

/-- ITS FALSE NEIGHBOUR: 'it returns false'. Refute it at one input. -/
def fnBetterPathWrong : ChangeSpec := { name := "fnBetterPath", fn := fun _ => fun
  | [d] => { results := [.lit (.bool false)], args := [d] }
  | _ => none }
def FnBetterPathWrongFalsely : Prop := fnBetterPathRow.holds Try.pinned (OpenSpec.ofChange fnBetterPathWrong)

/-- 'laws.FnCountBest': WHATEVER THE INPUT: true; the input reads as it did. -/
def fnCountBestSpec : ChangeSpec := { name := "fnCountBest", fn := fun _ => fun
  | [d] => { results := [.lit (.bool true)], args := [d] }
  | _ => none }
def fnCountBestRow : OpenClaim := { program := "ytjcfefpcilhelaa", sum := "960d4dd4bb030f4863ef75c96a0e83546d51a8127d9295a05a29f398ad383124", func := "loop.example/graphviews/laws.FnCountBest", spec := "fnCountBest", unfollowed := true, recurses := true, apart := false }
def FnCountBestSaid : Prop := fnCountBestRow.holds Try.pinned (OpenSpec.ofChange fnCountBestSpec)

/-- ITS FALSE NEIGHBOUR: 'it returns false'. Refute it at one input. -/
def fnCountBestWrong : ChangeSpec := { name := "fnCountBest", fn := fun _ => fun
  | [d] => { results := [.lit (.bool false)], args := [d] }
  | _ => none }
def FnCountBestWrongFalsely : Prop := fnCountBestRow.holds Try.pinned (OpenSpec.ofChange fnCountBestWrong)

/-- 'laws.FnCountNext': WHATEVER THE INPUT: true; the input reads as it did. -/
def fnCountNextSpec : ChangeSpec := { name := "fnCountNext", fn := fun _ => fun
  | [d] => { results := [.lit (.bool true)], args := [d] }
  | _ => none }
def fnCountNextRow : OpenClaim := { program := "ytjcfefpcilhelaa", sum := "960d4dd4bb030f4863ef75c96a0e83546d51a8127d9295a05a29f398ad383124", func := "loop.example/graphviews/laws.FnCountNext", spec := "fnCountNext", unfollowed := true, recurses := true, apart := false }
def FnCountNextSaid : Prop := fnCountNextRow.holds Try.pinned (OpenSpec.ofChange fnCountNextSpec)

/-- ITS FALSE NEIGHBOUR: 'it returns false'. Refute it at one input. -/
def fnCountNextWrong : ChangeSpec := { name := "fnCountNext", fn := fun _ => fun
  | [d] => { results := [.lit (.bool false)], args := [d] }
  | _ => none }
def FnCountNextWrongFalsely : Prop := fnCountNextRow.holds Try.pinned (OpenSpec.ofChange fnCountNextWrong)

/-- 'laws.FnKeepView': WHATEVER THE INPUT: true; the input reads as it did. -/
def fnKeepViewSpec : ChangeSpec := { name := "fnKeepView", fn := fun _ => fun
  | [d] => { results := [.lit (.bool true)], args := [d] }
  | _ => none }
def fnKeepViewRow : OpenClaim := { program := "ytjcfefpcilhelaa", sum := "960d4dd4bb030f4863ef75c96a0e83546d51a8127d9295a05a29f398ad383124", func := "loop.example/graphviews/laws.FnKeepView", spec := "fnKeepView", unfollowed := true, recurses := true, apart := false }
def FnKeepViewSaid : Prop := fnKeepViewRow.holds Try.pinned (OpenSpec.ofChange fnKeepViewSpec)

/-- ITS FALSE NEIGHBOUR: 'it returns false'. Refute it at one input. -/
def fnKeepViewWrong : ChangeSpec := { name := "fnKeepView", fn := fun _ => fun
  | [d] => { results := [.lit (.bool false)], args := [d] }
  | _ => none }
def FnKeepViewWrongFalsely : Prop := fnKeepViewRow.holds Try.pinned (OpenSpec.ofChange fnKeepViewWrong)

/-- 'laws.FnPathAccepts': WHATEVER THE INPUT: true; the input reads as it did. -/
def fnPathAcceptsSpec : ChangeSpec := { name := "fnPathAccepts", fn := fun _ => fun
  | [d] => { results := [.lit (.bool true)], args := [d] }
  | _ => none }
def fnPathAcceptsRow : OpenClaim := { program := "ytjcfefpcilhelaa", sum := "960d4dd4bb030f4863ef75c96a0e83546d51a8127d9295a05a29f398ad383124", func := "loop.example/graphviews/laws.FnPathAccepts", spec := "fnPathAccepts", apart := false }
def FnPathAcceptsSaid : Prop := fnPathAcceptsRow.holds Try.pinned (OpenSpec.ofChange fnPathAcceptsSpec)

/-- ITS FALSE NEIGHBOUR: 'it returns false'. Refute it at one input. -/
def fnPathAcceptsWrong : ChangeSpec := { name := "fnPathAccepts", fn := fun _ => fun
  | [d] => { results := [.lit (.bool false)], args := [d] }
  | _ => none }
def FnPathAcceptsWrongFalsely : Prop := fnPathAcceptsRow.holds Try.pinned (OpenSpec.ofChange fnPathAcceptsWrong)

/-- 'laws.FnPathEdges': WHATEVER THE INPUT: true; the input reads as it did. -/
def fnPathEdgesSpec : ChangeSpec := { name := "fnPathEdges", fn := fun _ => fun
  | [d] => { results := [.lit (.bool true)], args := [d] }
  | _ => none }
def fnPathEdgesRow : OpenClaim := { program := "ytjcfefpcilhelaa", sum := "960d4dd4bb030f4863ef75c96a0e83546d51a8127d9295a05a29f398ad383124", func := "loop.example/graphviews/laws.FnPathEdges", spec := "fnPathEdges", unfollowed := true, recurses := true, apart := false }
def FnPathEdgesSaid : Prop := fnPathEdgesRow.holds Try.pinned (OpenSpec.ofChange fnPathEdgesSpec)

/-- ITS FALSE NEIGHBOUR: 'it returns false'. Refute it at one input. -/
def fnPathEdgesWrong : ChangeSpec := { name := "fnPathEdges", fn := fun _ => fun
  | [d] => { results := [.lit (.bool false)], args := [d] }
  | _ => none }
def FnPathEdgesWrongFalsely : Prop := fnPathEdgesRow.holds Try.pinned (OpenSpec.ofChange fnPathEdgesWrong)

/-- 'laws.FnViewSame': WHATEVER THE INPUT: true; the input reads as it did. -/
def fnViewSameSpec : ChangeSpec := { name := "fnViewSame", fn := fun _ => fun
  | [d] => { results := [.lit (.bool true)], args := [d] }
  | _ => none }
def fnViewSameRow : OpenClaim := { program := "ytjcfefpcilhelaa", sum := "960d4dd4bb030f4863ef75c96a0e83546d51a8127d9295a05a29f398ad383124", func := "loop.example/graphviews/laws.FnViewSame", spec := "fnViewSame", apart := false }
def FnViewSameSaid : Prop := fnViewSameRow.holds Try.pinned (OpenSpec.ofChange fnViewSameSpec)

/-- ITS FALSE NEIGHBOUR: 'it returns false'. Refute it at one input. -/
def fnViewSameWrong : ChangeSpec := { name := "fnViewSame", fn := fun _ => fun
  | [d] => { results := [.lit (.bool false)], args := [d] }
  | _ => none }
def FnViewSameWrongFalsely : Prop := fnViewSameRow.holds Try.pinned (OpenSpec.ofChange fnViewSameWrong)

/- THE SECOND FORM. 'bulk': how many values and letters a reading holds, each counted each time it is reached (what is shared counts as often as it is met; a slice's spare places count too). A statement '..UptoSaid' is the law's where the arguments, and the package variables that the reading takes, are together of bulk at most 1048576: NARROWER than '..Said'. Prove '..Said' where nothing that the law and all that it calls make is longer than what came in: it says more and counts as full. Else prove '..UptoSaid'. A law counts once. -/
mutual
def uptoBulk {H : Type} : DataW H → Nat
  | .lit (.string bytes) => bytes.length + 1
  | .lit _ => 1
  | .nil => 1
  | .ptr d => uptoBulk d + 1
  | .slice elems spare => uptoBulkAll elems + uptoBulkAll spare + 1
  | .agg parts => uptoBulkAll parts + 1
  | .iface _ d => uptoBulk d + 1
  | .map entries => uptoBulkEntries entries + 1
  | .held _ => 1
def uptoBulkAll {H : Type} : List (DataW H) → Nat
  | [] => 0
  | d :: r => uptoBulk d + uptoBulkAll r
def uptoBulkEntries {H : Type} : List (Lit × DataW H) → Nat
  | [] => 0
  | x :: r => uptoBulkEntry x + uptoBulkEntries r
def uptoBulkEntry {H : Type} : Lit × DataW H → Nat
  | (.string bytes, d) => bytes.length + uptoBulk d + 1
  | (_, d) => uptoBulk d + 1
 end
def uptoSmall : (H : Type) → List (DataW H) → Bool := fun _ ds => decide (uptoBulkAll ds ≤ 1048576)
def OpenSpec.upto (s : _root_.Go.ChangeSpec) : _root_.Go.OpenSpec := { _root_.Go.OpenSpec.ofChange s with cond := some uptoSmall }

/-- 'laws.FnTightEdges', WHERE WHAT IT READS IS OF BULK AT MOST 1048576: true; the input reads as it did. -/
def fnTightEdgesUptoRow : OpenClaim := { program := "ytjcfefpcilhelaa", sum := "960d4dd4bb030f4863ef75c96a0e83546d51a8127d9295a05a29f398ad383124", func := "loop.example/graphviews/laws.FnTightEdges", spec := "fnTightEdges", unfollowed := true, recurses := true, apart := false, narrowed := true }
def FnTightEdgesUptoSaid : Prop := fnTightEdgesUptoRow.holds Try.pinned (OpenSpec.upto fnTightEdgesSpec)

/-- 'laws.FnTightLoose', WHERE WHAT IT READS IS OF BULK AT MOST 1048576: true; the input reads as it did. -/
def fnTightLooseUptoRow : OpenClaim := { program := "ytjcfefpcilhelaa", sum := "960d4dd4bb030f4863ef75c96a0e83546d51a8127d9295a05a29f398ad383124", func := "loop.example/graphviews/laws.FnTightLoose", spec := "fnTightLoose", unfollowed := true, recurses := true, apart := false, narrowed := true }
def FnTightLooseUptoSaid : Prop := fnTightLooseUptoRow.holds Try.pinned (OpenSpec.upto fnTightLooseSpec)

/-- 'laws.FnFirstFault', WHERE WHAT IT READS IS OF BULK AT MOST 1048576: true; the input reads as it did. -/
def fnFirstFaultUptoRow : OpenClaim := { program := "ytjcfefpcilhelaa", sum := "960d4dd4bb030f4863ef75c96a0e83546d51a8127d9295a05a29f398ad383124", func := "loop.example/graphviews/laws.FnFirstFault", spec := "fnFirstFault", unfollowed := true, recurses := true, apart := false, narrowed := true }
def FnFirstFaultUptoSaid : Prop := fnFirstFaultUptoRow.holds Try.pinned (OpenSpec.upto fnFirstFaultSpec)

/-- 'laws.FnFaultPath', WHERE WHAT IT READS IS OF BULK AT MOST 1048576: true; the input reads as it did. -/
def fnFaultPathUptoRow : OpenClaim := { program := "ytjcfefpcilhelaa", sum := "960d4dd4bb030f4863ef75c96a0e83546d51a8127d9295a05a29f398ad383124", func := "loop.example/graphviews/laws.FnFaultPath", spec := "fnFaultPath", unfollowed := true, recurses := true, apart := false, narrowed := true }
def FnFaultPathUptoSaid : Prop := fnFaultPathUptoRow.holds Try.pinned (OpenSpec.upto fnFaultPathSpec)

/-- 'laws.FnBetterPath', WHERE WHAT IT READS IS OF BULK AT MOST 1048576: true; the input reads as it did. -/
def fnBetterPathUptoRow : OpenClaim := { program := "ytjcfefpcilhelaa", sum := "960d4dd4bb030f4863ef75c96a0e83546d51a8127d9295a05a29f398ad383124", func := "loop.example/graphviews/laws.FnBetterPath", spec := "fnBetterPath", unfollowed := true, recurses := true, apart := false, narrowed := true }
def FnBetterPathUptoSaid : Prop := fnBetterPathUptoRow.holds Try.pinned (OpenSpec.upto fnBetterPathSpec)

/-- 'laws.FnCountBest', WHERE WHAT IT READS IS OF BULK AT MOST 1048576: true; the input reads as it did. -/
def fnCountBestUptoRow : OpenClaim := { program := "ytjcfefpcilhelaa", sum := "960d4dd4bb030f4863ef75c96a0e83546d51a8127d9295a05a29f398ad383124", func := "loop.example/graphviews/laws.FnCountBest", spec := "fnCountBest", unfollowed := true, recurses := true, apart := false, narrowed := true }
def FnCountBestUptoSaid : Prop := fnCountBestUptoRow.holds Try.pinned (OpenSpec.upto fnCountBestSpec)

/-- 'laws.FnCountNext', WHERE WHAT IT READS IS OF BULK AT MOST 1048576: true; the input reads as it did. -/
def fnCountNextUptoRow : OpenClaim := { program := "ytjcfefpcilhelaa", sum := "960d4dd4bb030f4863ef75c96a0e83546d51a8127d9295a05a29f398ad383124", func := "loop.example/graphviews/laws.FnCountNext", spec := "fnCountNext", unfollowed := true, recurses := true, apart := false, narrowed := true }
def FnCountNextUptoSaid : Prop := fnCountNextUptoRow.holds Try.pinned (OpenSpec.upto fnCountNextSpec)

/-- 'laws.FnKeepView', WHERE WHAT IT READS IS OF BULK AT MOST 1048576: true; the input reads as it did. -/
def fnKeepViewUptoRow : OpenClaim := { program := "ytjcfefpcilhelaa", sum := "960d4dd4bb030f4863ef75c96a0e83546d51a8127d9295a05a29f398ad383124", func := "loop.example/graphviews/laws.FnKeepView", spec := "fnKeepView", unfollowed := true, recurses := true, apart := false, narrowed := true }
def FnKeepViewUptoSaid : Prop := fnKeepViewUptoRow.holds Try.pinned (OpenSpec.upto fnKeepViewSpec)

/-- 'laws.FnPathAccepts', WHERE WHAT IT READS IS OF BULK AT MOST 1048576: true; the input reads as it did. -/
def fnPathAcceptsUptoRow : OpenClaim := { program := "ytjcfefpcilhelaa", sum := "960d4dd4bb030f4863ef75c96a0e83546d51a8127d9295a05a29f398ad383124", func := "loop.example/graphviews/laws.FnPathAccepts", spec := "fnPathAccepts", apart := false, narrowed := true }
def FnPathAcceptsUptoSaid : Prop := fnPathAcceptsUptoRow.holds Try.pinned (OpenSpec.upto fnPathAcceptsSpec)

/-- 'laws.FnPathEdges', WHERE WHAT IT READS IS OF BULK AT MOST 1048576: true; the input reads as it did. -/
def fnPathEdgesUptoRow : OpenClaim := { program := "ytjcfefpcilhelaa", sum := "960d4dd4bb030f4863ef75c96a0e83546d51a8127d9295a05a29f398ad383124", func := "loop.example/graphviews/laws.FnPathEdges", spec := "fnPathEdges", unfollowed := true, recurses := true, apart := false, narrowed := true }
def FnPathEdgesUptoSaid : Prop := fnPathEdgesUptoRow.holds Try.pinned (OpenSpec.upto fnPathEdgesSpec)

/-- 'laws.FnViewSame', WHERE WHAT IT READS IS OF BULK AT MOST 1048576: true; the input reads as it did. -/
def fnViewSameUptoRow : OpenClaim := { program := "ytjcfefpcilhelaa", sum := "960d4dd4bb030f4863ef75c96a0e83546d51a8127d9295a05a29f398ad383124", func := "loop.example/graphviews/laws.FnViewSame", spec := "fnViewSame", apart := false, narrowed := true }
def FnViewSameUptoSaid : Prop := fnViewSameUptoRow.holds Try.pinned (OpenSpec.upto fnViewSameSpec)

end Rows
end Go.Proofs.Ytjcfefpcilhelaa
