/-
  No cell of these rows narrows 'for every input' (looked for: loops, veiled, ifaces, maps, wideKeys, modest, calm, conditions, laid).
  DERIVED. THE GIVEN ROWS OF THIS SEAT. 8 by the template 'for every input the law returns true; each argument reads behind the call as it read before'; 0 by the template 'total and deterministic' (their statements: YtflcnlepbllelaaTotals.lean).
  GIVEN WITH THE SEED: the statements are not yours to turn. If you find one false, say at which input.
  Laid BY PROGRAM, IN A SANDBOX (cutbox-rows.mjs): the forced cells as the released guide's own fill.sh prints them over the translation ff2e3765c0b33639… (all of the seat's roots in one cut). By AI agents, Wed Nov 11 2026. No macro, syntax, notation, axiom, sorry.
-/
import Derived.Test.YtflcnlepbllelaaChecked
import GoSem.Claim
import GoSem.ClaimJoined
import GoSem.ClaimMapViews
import Derived.JoinedTies
import Derived.KernelRfl
namespace Go.Proofs.Ytflcnlepbllelaa
/- THE CELL 'sum', in the pinned program and in every row, IS THE sha256 OF THE DUMP (.gsa) THAT YtflcnlepbllelaaProg.lean LOADS. Nothing in Lean hashes anything: it is a label: what it is worth is what the hold of that sum in a sandbox is worth. -/
noncomputable def Try.pinned : Pinned := { name := "ytflcnlepbllelaa", sum := "ff2e3765c0b3363931b7c51d273f03ed953a45d8015c8f28810295575da99e98", checked := Try.checked }
namespace Rows
def none {H : Type} : Left H := { results := [], args := [] }

/-- 'laws.FnScheduleParts': WHATEVER THE INPUT: true; the input reads as it did. -/
def fnSchedulePartsSpec : ChangeSpec := { name := "fnScheduleParts", fn := fun _ => fun
  | [d] => { results := [.lit (.bool true)], args := [d] }
  | _ => none }
def fnSchedulePartsRow : OpenClaim := { program := "ytflcnlepbllelaa", sum := "ff2e3765c0b3363931b7c51d273f03ed953a45d8015c8f28810295575da99e98", func := "loop.example/graphviews/laws.FnScheduleParts", spec := "fnScheduleParts", unfollowed := true, recurses := true, apart := false }
def FnSchedulePartsSaid : Prop := fnSchedulePartsRow.holds Try.pinned (OpenSpec.ofChange fnSchedulePartsSpec)

/-- ITS FALSE NEIGHBOUR: 'it returns false'. Refute it at one input. -/
def fnSchedulePartsWrong : ChangeSpec := { name := "fnScheduleParts", fn := fun _ => fun
  | [d] => { results := [.lit (.bool false)], args := [d] }
  | _ => none }
def FnSchedulePartsWrongFalsely : Prop := fnSchedulePartsRow.holds Try.pinned (OpenSpec.ofChange fnSchedulePartsWrong)

/-- 'laws.FnLooseEdges': WHATEVER THE INPUT: true; the input reads as it did. -/
def fnLooseEdgesSpec : ChangeSpec := { name := "fnLooseEdges", fn := fun _ => fun
  | [d] => { results := [.lit (.bool true)], args := [d] }
  | _ => none }
def fnLooseEdgesRow : OpenClaim := { program := "ytflcnlepbllelaa", sum := "ff2e3765c0b3363931b7c51d273f03ed953a45d8015c8f28810295575da99e98", func := "loop.example/graphviews/laws.FnLooseEdges", spec := "fnLooseEdges", unfollowed := true, recurses := true, apart := false }
def FnLooseEdgesSaid : Prop := fnLooseEdgesRow.holds Try.pinned (OpenSpec.ofChange fnLooseEdgesSpec)

/-- ITS FALSE NEIGHBOUR: 'it returns false'. Refute it at one input. -/
def fnLooseEdgesWrong : ChangeSpec := { name := "fnLooseEdges", fn := fun _ => fun
  | [d] => { results := [.lit (.bool false)], args := [d] }
  | _ => none }
def FnLooseEdgesWrongFalsely : Prop := fnLooseEdgesRow.holds Try.pinned (OpenSpec.ofChange fnLooseEdgesWrong)

/-- 'laws.FnExactFairRounds': WHATEVER THE INPUT: true; the input reads as it did. -/
def fnExactFairRoundsSpec : ChangeSpec := { name := "fnExactFairRounds", fn := fun _ => fun
  | [d1, d2] => { results := [.lit (.bool true)], args := [d1, d2] }
  | _ => none }
def fnExactFairRoundsRow : OpenClaim := { program := "ytflcnlepbllelaa", sum := "ff2e3765c0b3363931b7c51d273f03ed953a45d8015c8f28810295575da99e98", func := "loop.example/graphviews/laws.FnExactFairRounds", spec := "fnExactFairRounds", apart := false }
def FnExactFairRoundsSaid : Prop := fnExactFairRoundsRow.holds Try.pinned (OpenSpec.ofChange fnExactFairRoundsSpec)

/-- ITS FALSE NEIGHBOUR: 'it returns false'. Refute it at one input. -/
def fnExactFairRoundsWrong : ChangeSpec := { name := "fnExactFairRounds", fn := fun _ => fun
  | [d1, d2] => { results := [.lit (.bool false)], args := [d1, d2] }
  | _ => none }
def FnExactFairRoundsWrongFalsely : Prop := fnExactFairRoundsRow.holds Try.pinned (OpenSpec.ofChange fnExactFairRoundsWrong)

/-- 'laws.FnFairSchedule': WHATEVER THE INPUT: true; the input reads as it did. -/
def fnFairScheduleSpec : ChangeSpec := { name := "fnFairSchedule", fn := fun _ => fun
  | [d] => { results := [.lit (.bool true)], args := [d] }
  | _ => none }
def fnFairScheduleRow : OpenClaim := { program := "ytflcnlepbllelaa", sum := "ff2e3765c0b3363931b7c51d273f03ed953a45d8015c8f28810295575da99e98", func := "loop.example/graphviews/laws.FnFairSchedule", spec := "fnFairSchedule", unfollowed := true, recurses := true, apart := false }
def FnFairScheduleSaid : Prop := fnFairScheduleRow.holds Try.pinned (OpenSpec.ofChange fnFairScheduleSpec)

/-- ITS FALSE NEIGHBOUR: 'it returns false'. Refute it at one input. -/
def fnFairScheduleWrong : ChangeSpec := { name := "fnFairSchedule", fn := fun _ => fun
  | [d] => { results := [.lit (.bool false)], args := [d] }
  | _ => none }
def FnFairScheduleWrongFalsely : Prop := fnFairScheduleRow.holds Try.pinned (OpenSpec.ofChange fnFairScheduleWrong)

/-- 'laws.FnFairMore': WHATEVER THE INPUT: true; the input reads as it did. -/
def fnFairMoreSpec : ChangeSpec := { name := "fnFairMore", fn := fun _ => fun
  | [d] => { results := [.lit (.bool true)], args := [d] }
  | _ => none }
def fnFairMoreRow : OpenClaim := { program := "ytflcnlepbllelaa", sum := "ff2e3765c0b3363931b7c51d273f03ed953a45d8015c8f28810295575da99e98", func := "loop.example/graphviews/laws.FnFairMore", spec := "fnFairMore", apart := false }
def FnFairMoreSaid : Prop := fnFairMoreRow.holds Try.pinned (OpenSpec.ofChange fnFairMoreSpec)

/-- ITS FALSE NEIGHBOUR: 'it returns false'. Refute it at one input. -/
def fnFairMoreWrong : ChangeSpec := { name := "fnFairMore", fn := fun _ => fun
  | [d] => { results := [.lit (.bool false)], args := [d] }
  | _ => none }
def FnFairMoreWrongFalsely : Prop := fnFairMoreRow.holds Try.pinned (OpenSpec.ofChange fnFairMoreWrong)

/-- 'laws.FnViewSame': WHATEVER THE INPUT: true; the input reads as it did. -/
def fnViewSameSpec : ChangeSpec := { name := "fnViewSame", fn := fun _ => fun
  | [d] => { results := [.lit (.bool true)], args := [d] }
  | _ => none }
def fnViewSameRow : OpenClaim := { program := "ytflcnlepbllelaa", sum := "ff2e3765c0b3363931b7c51d273f03ed953a45d8015c8f28810295575da99e98", func := "loop.example/graphviews/laws.FnViewSame", spec := "fnViewSame", apart := false }
def FnViewSameSaid : Prop := fnViewSameRow.holds Try.pinned (OpenSpec.ofChange fnViewSameSpec)

/-- ITS FALSE NEIGHBOUR: 'it returns false'. Refute it at one input. -/
def fnViewSameWrong : ChangeSpec := { name := "fnViewSame", fn := fun _ => fun
  | [d] => { results := [.lit (.bool false)], args := [d] }
  | _ => none }
def FnViewSameWrongFalsely : Prop := fnViewSameRow.holds Try.pinned (OpenSpec.ofChange fnViewSameWrong)

/-- 'laws.FnExactValuesOf': WHATEVER THE INPUT: true; the input reads as it did. -/
def fnExactValuesOfSpec : ChangeSpec := { name := "fnExactValuesOf", fn := fun _ => fun
  | [d1, d2, d3, d4] => { results := [.lit (.bool true)], args := [d1, d2, d3, d4] }
  | _ => none }
def fnExactValuesOfRow : OpenClaim := { program := "ytflcnlepbllelaa", sum := "ff2e3765c0b3363931b7c51d273f03ed953a45d8015c8f28810295575da99e98", func := "loop.example/graphviews/laws.FnExactValuesOf", spec := "fnExactValuesOf", unfollowed := true, recurses := true, apart := false }
def FnExactValuesOfSaid : Prop := fnExactValuesOfRow.holds Try.pinned (OpenSpec.ofChange fnExactValuesOfSpec)

/-- ITS FALSE NEIGHBOUR: 'it returns false'. Refute it at one input. -/
def fnExactValuesOfWrong : ChangeSpec := { name := "fnExactValuesOf", fn := fun _ => fun
  | [d1, d2, d3, d4] => { results := [.lit (.bool false)], args := [d1, d2, d3, d4] }
  | _ => none }
def FnExactValuesOfWrongFalsely : Prop := fnExactValuesOfRow.holds Try.pinned (OpenSpec.ofChange fnExactValuesOfWrong)

/-- 'laws.FnValuesOf': WHATEVER THE INPUT: true; the input reads as it did. -/
def fnValuesOfSpec : ChangeSpec := { name := "fnValuesOf", fn := fun _ => fun
  | [d] => { results := [.lit (.bool true)], args := [d] }
  | _ => none }
def fnValuesOfRow : OpenClaim := { program := "ytflcnlepbllelaa", sum := "ff2e3765c0b3363931b7c51d273f03ed953a45d8015c8f28810295575da99e98", func := "loop.example/graphviews/laws.FnValuesOf", spec := "fnValuesOf", unfollowed := true, recurses := true, apart := false }
def FnValuesOfSaid : Prop := fnValuesOfRow.holds Try.pinned (OpenSpec.ofChange fnValuesOfSpec)

/-- ITS FALSE NEIGHBOUR: 'it returns false'. Refute it at one input. -/
def fnValuesOfWrong : ChangeSpec := { name := "fnValuesOf", fn := fun _ => fun
  | [d] => { results := [.lit (.bool false)], args := [d] }
  | _ => none }
def FnValuesOfWrongFalsely : Prop := fnValuesOfRow.holds Try.pinned (OpenSpec.ofChange fnValuesOfWrong)

/- THE SECOND FORM. 'bulk': how many values and letters a reading holds, each counted each time it is reached (what is shared counts as often as it is met; a slice's spare places count too). A statement '..UptoSaid' is the law's where the arguments, and the package variables that the reading takes, are together of bulk at most 1048576: NARROWER than '..Said'. Prove '..Said' where nothing that the law and all that it calls make is longer than what came in: it says more and counts as full. Else prove '..UptoSaid'. A law counts once. -/
mutual
def uptoBulk {H : Type} : DataW H → Nat
  | .lit (.string bytes) => bytes.length + 1
  | .lit _ => 1
  | .nil => 1
  | .ptr d => uptoBulk d + 1
  | .slice elems spare => uptoBulkAll elems + uptoBulkAll spare + 1
  | .agg parts => uptoBulkAll parts + 1
  | .iface _ d => uptoBulk d + 1
  | .map entries => uptoBulkEntries entries + 1
  | .held _ => 1
def uptoBulkAll {H : Type} : List (DataW H) → Nat
  | [] => 0
  | d :: r => uptoBulk d + uptoBulkAll r
def uptoBulkEntries {H : Type} : List (Lit × DataW H) → Nat
  | [] => 0
  | x :: r => uptoBulkEntry x + uptoBulkEntries r
def uptoBulkEntry {H : Type} : Lit × DataW H → Nat
  | (.string bytes, d) => bytes.length + uptoBulk d + 1
  | (_, d) => uptoBulk d + 1
 end
def uptoSmall : (H : Type) → List (DataW H) → Bool := fun _ ds => decide (uptoBulkAll ds ≤ 1048576)
def OpenSpec.upto (s : _root_.Go.ChangeSpec) : _root_.Go.OpenSpec := { _root_.Go.OpenSpec.ofChange s with cond := some uptoSmall }

/-- 'laws.FnScheduleParts', WHERE WHAT IT READS IS OF BULK AT MOST 1048576: true; the input reads as it did. -/
def fnSchedulePartsUptoRow : OpenClaim := { program := "ytflcnlepbllelaa", sum := "ff2e3765c0b3363931b7c51d273f03ed953a45d8015c8f28810295575da99e98", func := "loop.example/graphviews/laws.FnScheduleParts", spec := "fnScheduleParts", unfollowed := true, recurses := true, apart := false, narrowed := true }
def FnSchedulePartsUptoSaid : Prop := fnSchedulePartsUptoRow.holds Try.pinned (OpenSpec.upto fnSchedulePartsSpec)

/-- 'laws.FnLooseEdges', WHERE WHAT IT READS IS OF BULK AT MOST 1048576: true; the input reads as it did. -/
def fnLooseEdgesUptoRow : OpenClaim := { program := "ytflcnlepbllelaa", sum := "ff2e3765c0b3363931b7c51d273f03ed953a45d8015c8f28810295575da99e98", func := "loop.example/graphviews/laws.FnLooseEdges", spec := "fnLooseEdges", unfollowed := true, recurses := true, apart := false, narrowed := true }
def FnLooseEdgesUptoSaid : Prop := fnLooseEdgesUptoRow.holds Try.pinned (OpenSpec.upto fnLooseEdgesSpec)

/-- 'laws.FnExactFairRounds', WHERE WHAT IT READS IS OF BULK AT MOST 1048576: true; the input reads as it did. -/
def fnExactFairRoundsUptoRow : OpenClaim := { program := "ytflcnlepbllelaa", sum := "ff2e3765c0b3363931b7c51d273f03ed953a45d8015c8f28810295575da99e98", func := "loop.example/graphviews/laws.FnExactFairRounds", spec := "fnExactFairRounds", apart := false, narrowed := true }
def FnExactFairRoundsUptoSaid : Prop := fnExactFairRoundsUptoRow.holds Try.pinned (OpenSpec.upto fnExactFairRoundsSpec)

/-- 'laws.FnFairSchedule', WHERE WHAT IT READS IS OF BULK AT MOST 1048576: true; the input reads as it did. -/
def fnFairScheduleUptoRow : OpenClaim := { program := "ytflcnlepbllelaa", sum := "ff2e3765c0b3363931b7c51d273f03ed953a45d8015c8f28810295575da99e98", func := "loop.example/graphviews/laws.FnFairSchedule", spec := "fnFairSchedule", unfollowed := true, recurses := true, apart := false, narrowed := true }
def FnFairScheduleUptoSaid : Prop := fnFairScheduleUptoRow.holds Try.pinned (OpenSpec.upto fnFairScheduleSpec)

/-- 'laws.FnFairMore', WHERE WHAT IT READS IS OF BULK AT MOST 1048576: true; the input reads as it did. -/
def fnFairMoreUptoRow : OpenClaim := { program := "ytflcnlepbllelaa", sum := "ff2e3765c0b3363931b7c51d273f03ed953a45d8015c8f28810295575da99e98", func := "loop.example/graphviews/laws.FnFairMore", spec := "fnFairMore", apart := false, narrowed := true }
def FnFairMoreUptoSaid : Prop := fnFairMoreUptoRow.holds Try.pinned (OpenSpec.upto fnFairMoreSpec)

/-- 'laws.FnViewSame', WHERE WHAT IT READS IS OF BULK AT MOST 1048576: true; the input reads as it did. -/
def fnViewSameUptoRow : OpenClaim := { program := "ytflcnlepbllelaa", sum := "ff2e3765c0b3363931b7c51d273f03ed953a45d8015c8f28810295575da99e98", func := "loop.example/graphviews/laws.FnViewSame", spec := "fnViewSame", apart := false, narrowed := true }
def FnViewSameUptoSaid : Prop := fnViewSameUptoRow.holds Try.pinned (OpenSpec.upto fnViewSameSpec)

/-- 'laws.FnExactValuesOf', WHERE WHAT IT READS IS OF BULK AT MOST 1048576: true; the input reads as it did. -/
def fnExactValuesOfUptoRow : OpenClaim := { program := "ytflcnlepbllelaa", sum := "ff2e3765c0b3363931b7c51d273f03ed953a45d8015c8f28810295575da99e98", func := "loop.example/graphviews/laws.FnExactValuesOf", spec := "fnExactValuesOf", unfollowed := true, recurses := true, apart := false, narrowed := true }
def FnExactValuesOfUptoSaid : Prop := fnExactValuesOfUptoRow.holds Try.pinned (OpenSpec.upto fnExactValuesOfSpec)

/-- 'laws.FnValuesOf', WHERE WHAT IT READS IS OF BULK AT MOST 1048576: true; the input reads as it did. -/
def fnValuesOfUptoRow : OpenClaim := { program := "ytflcnlepbllelaa", sum := "ff2e3765c0b3363931b7c51d273f03ed953a45d8015c8f28810295575da99e98", func := "loop.example/graphviews/laws.FnValuesOf", spec := "fnValuesOf", unfollowed := true, recurses := true, apart := false, narrowed := true }
def FnValuesOfUptoSaid : Prop := fnValuesOfUptoRow.holds Try.pinned (OpenSpec.upto fnValuesOfSpec)

end Rows
end Go.Proofs.Ytflcnlepbllelaa
