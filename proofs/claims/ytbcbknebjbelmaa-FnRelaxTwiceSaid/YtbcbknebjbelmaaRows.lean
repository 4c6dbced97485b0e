/-
  No cell of these rows narrows 'for every input' (looked for: loops, veiled, ifaces, maps, wideKeys, modest, calm, conditions, laid).
  DERIVED. THE GIVEN ROWS OF THIS SEAT. 12 by the template 'for every input the law returns true; each argument reads behind the call as it read before'; 0 by the template 'total and deterministic' (their statements: YtbcbknebjbelmaaTotals.lean).
  GIVEN WITH THE SEED: the statements are not yours to turn. If you find one false, say at which input.
  Laid BY PROGRAM, IN A SANDBOX (cutbox-rows.mjs): the forced cells as the released guide's own fill.sh prints them over the translation c4572f711363cd50… (all of the seat's roots in one cut). By AI agents, Wed Nov 11 2026. No macro, syntax, notation, axiom, sorry.
-/
import Derived.Test.YtbcbknebjbelmaaChecked
import GoSem.Claim
import GoSem.ClaimJoined
import GoSem.ClaimMapViews
import Derived.JoinedTies
import Derived.KernelRfl
namespace Go.Proofs.Ytbcbknebjbelmaa
/- THE CELL 'sum', in the pinned program and in every row, IS THE sha256 OF THE DUMP (.gsa) THAT YtbcbknebjbelmaaProg.lean LOADS. Nothing in Lean hashes anything: it is a label: what it is worth is what the hold of that sum in a sandbox is worth. -/
noncomputable def Try.pinned : Pinned := { name := "ytbcbknebjbelmaa", sum := "c4572f711363cd502cebd40337d468ced6bb07eed919d2c8276ccd92f21f4f7c", checked := Try.checked }
namespace Rows
def none {H : Type} : Left H := { results := [], args := [] }

/-- 'laws.FnViewValid': WHATEVER THE INPUT: true; the input reads as it did. -/
def fnViewValidSpec : ChangeSpec := { name := "fnViewValid", fn := fun _ => fun
  | [d] => { results := [.lit (.bool true)], args := [d] }
  | _ => none }
def fnViewValidRow : OpenClaim := { program := "ytbcbknebjbelmaa", sum := "c4572f711363cd502cebd40337d468ced6bb07eed919d2c8276ccd92f21f4f7c", func := "loop.example/graphviews/laws.FnViewValid", spec := "fnViewValid", unfollowed := true, recurses := true, apart := false }
def FnViewValidSaid : Prop := fnViewValidRow.holds Try.pinned (OpenSpec.ofChange fnViewValidSpec)

/-- ITS FALSE NEIGHBOUR: 'it returns false'. Refute it at one input. -/
def fnViewValidWrong : ChangeSpec := { name := "fnViewValid", fn := fun _ => fun
  | [d] => { results := [.lit (.bool false)], args := [d] }
  | _ => none }
def FnViewValidWrongFalsely : Prop := fnViewValidRow.holds Try.pinned (OpenSpec.ofChange fnViewValidWrong)

/-- 'laws.FnViewSame': WHATEVER THE INPUT: true; the input reads as it did. -/
def fnViewSameSpec : ChangeSpec := { name := "fnViewSame", fn := fun _ => fun
  | [d] => { results := [.lit (.bool true)], args := [d] }
  | _ => none }
def fnViewSameRow : OpenClaim := { program := "ytbcbknebjbelmaa", sum := "c4572f711363cd502cebd40337d468ced6bb07eed919d2c8276ccd92f21f4f7c", func := "loop.example/graphviews/laws.FnViewSame", spec := "fnViewSame", apart := false }
def FnViewSameSaid : Prop := fnViewSameRow.holds Try.pinned (OpenSpec.ofChange fnViewSameSpec)

/-- ITS FALSE NEIGHBOUR: 'it returns false'. Refute it at one input. -/
def fnViewSameWrong : ChangeSpec := { name := "fnViewSame", fn := fun _ => fun
  | [d] => { results := [.lit (.bool false)], args := [d] }
  | _ => none }
def FnViewSameWrongFalsely : Prop := fnViewSameRow.holds Try.pinned (OpenSpec.ofChange fnViewSameWrong)

/-- 'laws.FnViewBest': WHATEVER THE INPUT: true; the input reads as it did. -/
def fnViewBestSpec : ChangeSpec := { name := "fnViewBest", fn := fun _ => fun
  | [d] => { results := [.lit (.bool true)], args := [d] }
  | _ => none }
def fnViewBestRow : OpenClaim := { program := "ytbcbknebjbelmaa", sum := "c4572f711363cd502cebd40337d468ced6bb07eed919d2c8276ccd92f21f4f7c", func := "loop.example/graphviews/laws.FnViewBest", spec := "fnViewBest", unfollowed := true, recurses := true, apart := false }
def FnViewBestSaid : Prop := fnViewBestRow.holds Try.pinned (OpenSpec.ofChange fnViewBestSpec)

/-- ITS FALSE NEIGHBOUR: 'it returns false'. Refute it at one input. -/
def fnViewBestWrong : ChangeSpec := { name := "fnViewBest", fn := fun _ => fun
  | [d] => { results := [.lit (.bool false)], args := [d] }
  | _ => none }
def FnViewBestWrongFalsely : Prop := fnViewBestRow.holds Try.pinned (OpenSpec.ofChange fnViewBestWrong)

/-- 'laws.FnRelaxAll': WHATEVER THE INPUT: true; the input reads as it did. -/
def fnRelaxAllSpec : ChangeSpec := { name := "fnRelaxAll", fn := fun _ => fun
  | [d] => { results := [.lit (.bool true)], args := [d] }
  | _ => none }
def fnRelaxAllRow : OpenClaim := { program := "ytbcbknebjbelmaa", sum := "c4572f711363cd502cebd40337d468ced6bb07eed919d2c8276ccd92f21f4f7c", func := "loop.example/graphviews/laws.FnRelaxAll", spec := "fnRelaxAll", unfollowed := true, recurses := true, apart := false }
def FnRelaxAllSaid : Prop := fnRelaxAllRow.holds Try.pinned (OpenSpec.ofChange fnRelaxAllSpec)

/-- ITS FALSE NEIGHBOUR: 'it returns false'. Refute it at one input. -/
def fnRelaxAllWrong : ChangeSpec := { name := "fnRelaxAll", fn := fun _ => fun
  | [d] => { results := [.lit (.bool false)], args := [d] }
  | _ => none }
def FnRelaxAllWrongFalsely : Prop := fnRelaxAllRow.holds Try.pinned (OpenSpec.ofChange fnRelaxAllWrong)

/-- 'laws.FnReachedGrow': WHATEVER THE INPUT: true; the input reads as it did. -/
def fnReachedGrowSpec : ChangeSpec := { name := "fnReachedGrow", fn := fun _ => fun
  | [d] => { results := [.lit (.bool true)], args := [d] }
  | _ => none }
def fnReachedGrowRow : OpenClaim := { program := "ytbcbknebjbelmaa", sum := "c4572f711363cd502cebd40337d468ced6bb07eed919d2c8276ccd92f21f4f7c", func := "loop.example/graphviews/laws.FnReachedGrow", spec := "fnReachedGrow", unfollowed := true, recurses := true, apart := false }
def FnReachedGrowSaid : Prop := fnReachedGrowRow.holds Try.pinned (OpenSpec.ofChange fnReachedGrowSpec)

/-- ITS FALSE NEIGHBOUR: 'it returns false'. Refute it at one input. -/
def fnReachedGrowWrong : ChangeSpec := { name := "fnReachedGrow", fn := fun _ => fun
  | [d] => { results := [.lit (.bool false)], args := [d] }
  | _ => none }
def FnReachedGrowWrongFalsely : Prop := fnReachedGrowRow.holds Try.pinned (OpenSpec.ofChange fnReachedGrowWrong)

/-- 'laws.FnReachedNodes': WHATEVER THE INPUT: true; the input reads as it did. -/
def fnReachedNodesSpec : ChangeSpec := { name := "fnReachedNodes", fn := fun _ => fun
  | [d] => { results := [.lit (.bool true)], args := [d] }
  | _ => none }
def fnReachedNodesRow : OpenClaim := { program := "ytbcbknebjbelmaa", sum := "c4572f711363cd502cebd40337d468ced6bb07eed919d2c8276ccd92f21f4f7c", func := "loop.example/graphviews/laws.FnReachedNodes", spec := "fnReachedNodes", unfollowed := true, recurses := true, apart := false }
def FnReachedNodesSaid : Prop := fnReachedNodesRow.holds Try.pinned (OpenSpec.ofChange fnReachedNodesSpec)

/-- ITS FALSE NEIGHBOUR: 'it returns false'. Refute it at one input. -/
def fnReachedNodesWrong : ChangeSpec := { name := "fnReachedNodes", fn := fun _ => fun
  | [d] => { results := [.lit (.bool false)], args := [d] }
  | _ => none }
def FnReachedNodesWrongFalsely : Prop := fnReachedNodesRow.holds Try.pinned (OpenSpec.ofChange fnReachedNodesWrong)

/-- 'laws.FnRunSchedule': WHATEVER THE INPUT: true; the input reads as it did. -/
def fnRunScheduleSpec : ChangeSpec := { name := "fnRunSchedule", fn := fun _ => fun
  | [d] => { results := [.lit (.bool true)], args := [d] }
  | _ => none }
def fnRunScheduleRow : OpenClaim := { program := "ytbcbknebjbelmaa", sum := "c4572f711363cd502cebd40337d468ced6bb07eed919d2c8276ccd92f21f4f7c", func := "loop.example/graphviews/laws.FnRunSchedule", spec := "fnRunSchedule", unfollowed := true, recurses := true, apart := false }
def FnRunScheduleSaid : Prop := fnRunScheduleRow.holds Try.pinned (OpenSpec.ofChange fnRunScheduleSpec)

/-- ITS FALSE NEIGHBOUR: 'it returns false'. Refute it at one input. -/
def fnRunScheduleWrong : ChangeSpec := { name := "fnRunSchedule", fn := fun _ => fun
  | [d] => { results := [.lit (.bool false)], args := [d] }
  | _ => none }
def FnRunScheduleWrongFalsely : Prop := fnRunScheduleRow.holds Try.pinned (OpenSpec.ofChange fnRunScheduleWrong)

/-- 'laws.FnLooseEdges': WHATEVER THE INPUT: true; the input reads as it did. -/
def fnLooseEdgesSpec : ChangeSpec := { name := "fnLooseEdges", fn := fun _ => fun
  | [d] => { results := [.lit (.bool true)], args := [d] }
  | _ => none }
def fnLooseEdgesRow : OpenClaim := { program := "ytbcbknebjbelmaa", sum := "c4572f711363cd502cebd40337d468ced6bb07eed919d2c8276ccd92f21f4f7c", func := "loop.example/graphviews/laws.FnLooseEdges", spec := "fnLooseEdges", unfollowed := true, recurses := true, apart := false }
def FnLooseEdgesSaid : Prop := fnLooseEdgesRow.holds Try.pinned (OpenSpec.ofChange fnLooseEdgesSpec)

/-- ITS FALSE NEIGHBOUR: 'it returns false'. Refute it at one input. -/
def fnLooseEdgesWrong : ChangeSpec := { name := "fnLooseEdges", fn := fun _ => fun
  | [d] => { results := [.lit (.bool false)], args := [d] }
  | _ => none }
def FnLooseEdgesWrongFalsely : Prop := fnLooseEdgesRow.holds Try.pinned (OpenSpec.ofChange fnLooseEdgesWrong)

/-- 'laws.FnValuesOf': WHATEVER THE INPUT: true; the input reads as it did. -/
def fnValuesOfSpec : ChangeSpec := { name := "fnValuesOf", fn := fun _ => fun
  | [d] => { results := [.lit (.bool true)], args := [d] }
  | _ => none }
def fnValuesOfRow : OpenClaim := { program := "ytbcbknebjbelmaa", sum := "c4572f711363cd502cebd40337d468ced6bb07eed919d2c8276ccd92f21f4f7c", func := "loop.example/graphviews/laws.FnValuesOf", spec := "fnValuesOf", unfollowed := true, recurses := true, apart := false }
def FnValuesOfSaid : Prop := fnValuesOfRow.holds Try.pinned (OpenSpec.ofChange fnValuesOfSpec)

/-- ITS FALSE NEIGHBOUR: 'it returns false'. Refute it at one input. -/
def fnValuesOfWrong : ChangeSpec := { name := "fnValuesOf", fn := fun _ => fun
  | [d] => { results := [.lit (.bool false)], args := [d] }
  | _ => none }
def FnValuesOfWrongFalsely : Prop := fnValuesOfRow.holds Try.pinned (OpenSpec.ofChange fnValuesOfWrong)

/-- 'laws.FnScheduleParts': WHATEVER THE INPUT: true; the input reads as it did. -/
def fnSchedulePartsSpec : ChangeSpec := { name := "fnScheduleParts", fn := fun _ => fun
  | [d] => { results := [.lit (.bool true)], args := [d] }
  | _ => none }
def fnSchedulePartsRow : OpenClaim := { program := "ytbcbknebjbelmaa", sum := "c4572f711363cd502cebd40337d468ced6bb07eed919d2c8276ccd92f21f4f7c", func := "loop.example/graphviews/laws.FnScheduleParts", spec := "fnScheduleParts", unfollowed := true, recurses := true, apart := false }
def FnSchedulePartsSaid : Prop := fnSchedulePartsRow.holds Try.pinned (OpenSpec.ofChange fnSchedulePartsSpec)

/-- ITS FALSE NEIGHBOUR: 'it returns false'. Refute it at one input. -/
def fnSchedulePartsWrong : ChangeSpec := { name := "fnScheduleParts", fn := fun _ => fun
  | [d] => { results := [.lit (.bool false)], args := [d] }
  | _ => none }
def FnSchedulePartsWrongFalsely : Prop := fnSchedulePartsRow.holds Try.pinned (OpenSpec.ofChange fnSchedulePartsWrong)

/-- 'laws.FnRelaxTwice': WHATEVER THE INPUT: true; the input reads as it did. -/
def fnRelaxTwiceSpec : ChangeSpec := { name := "fnRelaxTwice", fn := fun _ => fun
  | [d] => { results := [.lit (.bool true)], args := [d] }
  | _ => none }
def fnRelaxTwiceRow : OpenClaim := { program := "ytbcbknebjbelmaa", sum := "c4572f711363cd502cebd40337d468ced6bb07eed919d2c8276ccd92f21f4f7c", func := "loop.example/graphviews/laws.FnRelaxTwice", spec := "fnRelaxTwice", unfollowed := true, recurses := true, apart := false }
def FnRelaxTwiceSaid : Prop := fnRelaxTwiceRow.holds Try.pinned (OpenSpec.ofChange fnRelaxTwiceSpec)

/-- ITS FALSE NEIGHBOUR: 'it returns false'. Refute it at one input. -/
def fnRelaxTwiceWrong : ChangeSpec := { name := "fnRelaxTwice", fn := fun _ => fun
  | [d] => { results := [.lit (.bool false)], args := [d] }
  | _ => none }
def FnRelaxTwiceWrongFalsely : Prop := fnRelaxTwiceRow.holds Try.pinned (OpenSpec.ofChange fnRelaxTwiceWrong)

/-- 'laws.FnScheduleStable': WHATEVER THE INPUT: true; the input reads as it did. -/
def fnScheduleStableSpec : ChangeSpec := { name := "fnScheduleStable", fn := fun _ => fun
  | [d] => { results := [.lit (.bool true)], args := [d] }
  | _ => none }
def fnScheduleStableRow : OpenClaim := { program := "ytbcbknebjbelmaa", sum := "c4572f711363cd502cebd40337d468ced6bb07eed919d2c8276ccd92f21f4f7c", func := "loop.example/graphviews/laws.FnScheduleStable", spec := "fnScheduleStable", unfollowed := true, recurses := true, apart := false }
def FnScheduleStableSaid : Prop := fnScheduleStableRow.holds Try.pinned (OpenSpec.ofChange fnScheduleStableSpec)

/-- ITS FALSE NEIGHBOUR: 'it returns false'. Refute it at one input. -/
def fnScheduleStableWrong : ChangeSpec := { name := "fnScheduleStable", fn := fun _ => fun
  | [d] => { results := [.lit (.bool false)], args := [d] }
  | _ => none }
def FnScheduleStableWrongFalsely : Prop := fnScheduleStableRow.holds Try.pinned (OpenSpec.ofChange fnScheduleStableWrong)

/- THE SECOND FORM. 'bulk': how many values and letters a reading holds, each counted each time it is reached (what is shared counts as often as it is met; a slice's spare places count too). A statement '..UptoSaid' is the law's where the arguments, and the package variables that the reading takes, are together of bulk at most 1048576: NARROWER than '..Said'. Prove '..Said' where nothing that the law and all that it calls make is longer than what came in: it says more and counts as full. Else prove '..UptoSaid'. A law counts once. -/
mutual
def uptoBulk {H : Type} : DataW H → Nat
  | .lit (.string bytes) => bytes.length + 1
  | .lit _ => 1
  | .nil => 1
  | .ptr d => uptoBulk d + 1
  | .slice elems spare => uptoBulkAll elems + uptoBulkAll spare + 1
  | .agg parts => uptoBulkAll parts + 1
  | .iface _ d => uptoBulk d + 1
  | .map entries => uptoBulkEntries entries + 1
  | .held _ => 1
def uptoBulkAll {H : Type} : List (DataW H) → Nat
  | [] => 0
  | d :: r => uptoBulk d + uptoBulkAll r
def uptoBulkEntries {H : Type} : List (Lit × DataW H) → Nat
  | [] => 0
  | x :: r => uptoBulkEntry x + uptoBulkEntries r
def uptoBulkEntry {H : Type} : Lit × DataW H → Nat
  | (.string bytes, d) => bytes.length + uptoBulk d + 1
  | (_, d) => uptoBulk d + 1
 end
def uptoSmall : (H : Type) → List (DataW H) → Bool := fun _ ds => decide (uptoBulkAll ds ≤ 1048576)
def OpenSpec.upto (s : _root_.Go.ChangeSpec) : _root_.Go.OpenSpec := { _root_.Go.OpenSpec.ofChange s with cond := some uptoSmall }

/-- 'laws.FnViewValid', WHERE WHAT IT READS IS OF BULK AT MOST 1048576: true; the input reads as it did. -/
def fnViewValidUptoRow : OpenClaim := { program := "ytbcbknebjbelmaa", sum := "c4572f711363cd502cebd40337d468ced6bb07eed919d2c8276ccd92f21f4f7c", func := "loop.example/graphviews/laws.FnViewValid", spec := "fnViewValid", unfollowed := true, recurses := true, apart := false, narrowed := true }
def FnViewValidUptoSaid : Prop := fnViewValidUptoRow.holds Try.pinned (OpenSpec.upto fnViewValidSpec)

/-- 'laws.FnViewSame', WHERE WHAT IT READS IS OF BULK AT MOST 1048576: true; the input reads as it did. -/
def fnViewSameUptoRow : OpenClaim := { program := "ytbcbknebjbelmaa", sum := "c4572f711363cd502cebd40337d468ced6bb07eed919d2c8276ccd92f21f4f7c", func := "loop.example/graphviews/laws.FnViewSame", spec := "fnViewSame", apart := false, narrowed := true }
def FnViewSameUptoSaid : Prop := fnViewSameUptoRow.holds Try.pinned (OpenSpec.upto fnViewSameSpec)

/-- 'laws.FnViewBest', WHERE WHAT IT READS IS OF BULK AT MOST 1048576: true; the input reads as it did. -/
def fnViewBestUptoRow : OpenClaim := { program := "ytbcbknebjbelmaa", sum := "c4572f711363cd502cebd40337d468ced6bb07eed919d2c8276ccd92f21f4f7c", func := "loop.example/graphviews/laws.FnViewBest", spec := "fnViewBest", unfollowed := true, recurses := true, apart := false, narrowed := true }
def FnViewBestUptoSaid : Prop := fnViewBestUptoRow.holds Try.pinned (OpenSpec.upto fnViewBestSpec)

/-- 'laws.FnRelaxAll', WHERE WHAT IT READS IS OF BULK AT MOST 1048576: true; the input reads as it did. -/
def fnRelaxAllUptoRow : OpenClaim := { program := "ytbcbknebjbelmaa", sum := "c4572f711363cd502cebd40337d468ced6bb07eed919d2c8276ccd92f21f4f7c", func := "loop.example/graphviews/laws.FnRelaxAll", spec := "fnRelaxAll", unfollowed := true, recurses := true, apart := false, narrowed := true }
def FnRelaxAllUptoSaid : Prop := fnRelaxAllUptoRow.holds Try.pinned (OpenSpec.upto fnRelaxAllSpec)

/-- 'laws.FnReachedGrow', WHERE WHAT IT READS IS OF BULK AT MOST 1048576: true; the input reads as it did. -/
def fnReachedGrowUptoRow : OpenClaim := { program := "ytbcbknebjbelmaa", sum := "c4572f711363cd502cebd40337d468ced6bb07eed919d2c8276ccd92f21f4f7c", func := "loop.example/graphviews/laws.FnReachedGrow", spec := "fnReachedGrow", unfollowed := true, recurses := true, apart := false, narrowed := true }
def FnReachedGrowUptoSaid : Prop := fnReachedGrowUptoRow.holds Try.pinned (OpenSpec.upto fnReachedGrowSpec)

/-- 'laws.FnReachedNodes', WHERE WHAT IT READS IS OF BULK AT MOST 1048576: true; the input reads as it did. -/
def fnReachedNodesUptoRow : OpenClaim := { program := "ytbcbknebjbelmaa", sum := "c4572f711363cd502cebd40337d468ced6bb07eed919d2c8276ccd92f21f4f7c", func := "loop.example/graphviews/laws.FnReachedNodes", spec := "fnReachedNodes", unfollowed := true, recurses := true, apart := false, narrowed := true }
def FnReachedNodesUptoSaid : Prop := fnReachedNodesUptoRow.holds Try.pinned (OpenSpec.upto fnReachedNodesSpec)

/-- 'laws.FnRunSchedule', WHERE WHAT IT READS IS OF BULK AT MOST 1048576: true; the input reads as it did. -/
def fnRunScheduleUptoRow : OpenClaim := { program := "ytbcbknebjbelmaa", sum := "c4572f711363cd502cebd40337d468ced6bb07eed919d2c8276ccd92f21f4f7c", func := "loop.example/graphviews/laws.FnRunSchedule", spec := "fnRunSchedule", unfollowed := true, recurses := true, apart := false, narrowed := true }
def FnRunScheduleUptoSaid : Prop := fnRunScheduleUptoRow.holds Try.pinned (OpenSpec.upto fnRunScheduleSpec)

/-- 'laws.FnLooseEdges', WHERE WHAT IT READS IS OF BULK AT MOST 1048576: true; the input reads as it did. -/
def fnLooseEdgesUptoRow : OpenClaim := { program := "ytbcbknebjbelmaa", sum := "c4572f711363cd502cebd40337d468ced6bb07eed919d2c8276ccd92f21f4f7c", func := "loop.example/graphviews/laws.FnLooseEdges", spec := "fnLooseEdges", unfollowed := true, recurses := true, apart := false, narrowed := true }
def FnLooseEdgesUptoSaid : Prop := fnLooseEdgesUptoRow.holds Try.pinned (OpenSpec.upto fnLooseEdgesSpec)

/-- 'laws.FnValuesOf', WHERE WHAT IT READS IS OF BULK AT MOST 1048576: true; the input reads as it did. -/
def fnValuesOfUptoRow : OpenClaim := { program := "ytbcbknebjbelmaa", sum := "c4572f711363cd502cebd40337d468ced6bb07eed919d2c8276ccd92f21f4f7c", func := "loop.example/graphviews/laws.FnValuesOf", spec := "fnValuesOf", unfollowed := true, recurses := true, apart := false, narrowed := true }
def FnValuesOfUptoSaid : Prop := fnValuesOfUptoRow.holds Try.pinned (OpenSpec.upto fnValuesOfSpec)

/-- 'laws.FnScheduleParts', WHERE WHAT IT READS IS OF BULK AT MOST 1048576: true; the input reads as it did. -/
def fnSchedulePartsUptoRow : OpenClaim := { program := "ytbcbknebjbelmaa", sum := "c4572f711363cd502cebd40337d468ced6bb07eed919d2c8276ccd92f21f4f7c", func := "loop.example/graphviews/laws.FnScheduleParts", spec := "fnScheduleParts", unfollowed := true, recurses := true, apart := false, narrowed := true }
def FnSchedulePartsUptoSaid : Prop := fnSchedulePartsUptoRow.holds Try.pinned (OpenSpec.upto fnSchedulePartsSpec)

/-- 'laws.FnRelaxTwice', WHERE WHAT IT READS IS OF BULK AT MOST 1048576: true; the input reads as it did. -/
def fnRelaxTwiceUptoRow : OpenClaim := { program := "ytbcbknebjbelmaa", sum := "c4572f711363cd502cebd40337d468ced6bb07eed919d2c8276ccd92f21f4f7c", func := "loop.example/graphviews/laws.FnRelaxTwice", spec := "fnRelaxTwice", unfollowed := true, recurses := true, apart := false, narrowed := true }
def FnRelaxTwiceUptoSaid : Prop := fnRelaxTwiceUptoRow.holds Try.pinned (OpenSpec.upto fnRelaxTwiceSpec)

/-- 'laws.FnScheduleStable', WHERE WHAT IT READS IS OF BULK AT MOST 1048576: true; the input reads as it did. -/
def fnScheduleStableUptoRow : OpenClaim := { program := "ytbcbknebjbelmaa", sum := "c4572f711363cd502cebd40337d468ced6bb07eed919d2c8276ccd92f21f4f7c", func := "loop.example/graphviews/laws.FnScheduleStable", spec := "fnScheduleStable", unfollowed := true, recurses := true, apart := false, narrowed := true }
def FnScheduleStableUptoSaid : Prop := fnScheduleStableUptoRow.holds Try.pinned (OpenSpec.upto fnScheduleStableSpec)

end Rows
end Go.Proofs.Ytbcbknebjbelmaa
