/-
  No cell of these rows narrows 'for every input' (looked for: loops, veiled, ifaces, maps, wideKeys, modest, calm, conditions, laid).
  DERIVED. THE GIVEN ROWS OF THIS SEAT. 8 by the template 'for every input the law returns true; each argument reads behind the call as it read before'; 0 by the template 'total and deterministic' (their statements: YtddpljalojcomaaTotals.lean).
  GIVEN WITH THE SEED: the statements are not yours to turn. If you find one false, say at which input.
  Laid BY PROGRAM, IN A SANDBOX (cutbox-rows.mjs): the forced cells as the released guide's own fill.sh prints them over the translation 88e2e992ea6f4781… (all of the seat's roots in one cut). By AI agents, Wed Nov 11 2026. No macro, syntax, notation, axiom, sorry.
-/
import Derived.Test.YtddpljalojcomaaChecked
import GoSem.Claim
import GoSem.ClaimJoined
import GoSem.ClaimMapViews
import Derived.JoinedTies
import Derived.KernelRfl
namespace Go.Proofs.Ytddpljalojcomaa
/- THE CELL 'sum', in the pinned program and in every row, IS THE sha256 OF THE DUMP (.gsa) THAT YtddpljalojcomaaProg.lean LOADS. Nothing in Lean hashes anything: it is a label: what it is worth is what the hold of that sum in a sandbox is worth. -/
noncomputable def Try.pinned : Pinned := { name := "ytddpljalojcomaa", sum := "88e2e992ea6f478199d08c0cdb63e0e19918e774bd76f3f1f34990b9f3a93f73", checked := Try.checked }
namespace Rows
def none {H : Type} : Left H := { results := [], args := [] }

/-- 'laws.FnExactViewSame': WHATEVER THE INPUT: true; the input reads as it did. -/
def fnExactViewSameSpec : ChangeSpec := { name := "fnExactViewSame", fn := fun _ => fun
  | [d1, d2] => { results := [.lit (.bool true)], args := [d1, d2] }
  | _ => none }
def fnExactViewSameRow : OpenClaim := { program := "ytddpljalojcomaa", sum := "88e2e992ea6f478199d08c0cdb63e0e19918e774bd76f3f1f34990b9f3a93f73", func := "loop.example/graphviews/laws.FnExactViewSame", spec := "fnExactViewSame", apart := false }
def FnExactViewSameSaid : Prop := fnExactViewSameRow.holds Try.pinned (OpenSpec.ofChange fnExactViewSameSpec)

/-- ITS FALSE NEIGHBOUR: 'it returns false'. Refute it at one input. -/
def fnExactViewSameWrong : ChangeSpec := { name := "fnExactViewSame", fn := fun _ => fun
  | [d1, d2] => { results := [.lit (.bool false)], args := [d1, d2] }
  | _ => none }
def FnExactViewSameWrongFalsely : Prop := fnExactViewSameRow.holds Try.pinned (OpenSpec.ofChange fnExactViewSameWrong)

/-- 'laws.FnExactViewValid': WHATEVER THE INPUT: true; the input reads as it did. -/
def fnExactViewValidSpec : ChangeSpec := { name := "fnExactViewValid", fn := fun _ => fun
  | [d1, d2] => { results := [.lit (.bool true)], args := [d1, d2] }
  | _ => none }
def fnExactViewValidRow : OpenClaim := { program := "ytddpljalojcomaa", sum := "88e2e992ea6f478199d08c0cdb63e0e19918e774bd76f3f1f34990b9f3a93f73", func := "loop.example/graphviews/laws.FnExactViewValid", spec := "fnExactViewValid", unfollowed := true, recurses := true, apart := false }
def FnExactViewValidSaid : Prop := fnExactViewValidRow.holds Try.pinned (OpenSpec.ofChange fnExactViewValidSpec)

/-- ITS FALSE NEIGHBOUR: 'it returns false'. Refute it at one input. -/
def fnExactViewValidWrong : ChangeSpec := { name := "fnExactViewValid", fn := fun _ => fun
  | [d1, d2] => { results := [.lit (.bool false)], args := [d1, d2] }
  | _ => none }
def FnExactViewValidWrongFalsely : Prop := fnExactViewValidRow.holds Try.pinned (OpenSpec.ofChange fnExactViewValidWrong)

/-- 'laws.FnExactStartView': WHATEVER THE INPUT: true; the input reads as it did. -/
def fnExactStartViewSpec : ChangeSpec := { name := "fnExactStartView", fn := fun _ => fun
  | [d1, d2, d3] => { results := [.lit (.bool true)], args := [d1, d2, d3] }
  | _ => none }
def fnExactStartViewRow : OpenClaim := { program := "ytddpljalojcomaa", sum := "88e2e992ea6f478199d08c0cdb63e0e19918e774bd76f3f1f34990b9f3a93f73", func := "loop.example/graphviews/laws.FnExactStartView", spec := "fnExactStartView", unfollowed := true, recurses := true, apart := false }
def FnExactStartViewSaid : Prop := fnExactStartViewRow.holds Try.pinned (OpenSpec.ofChange fnExactStartViewSpec)

/-- ITS FALSE NEIGHBOUR: 'it returns false'. Refute it at one input. -/
def fnExactStartViewWrong : ChangeSpec := { name := "fnExactStartView", fn := fun _ => fun
  | [d1, d2, d3] => { results := [.lit (.bool false)], args := [d1, d2, d3] }
  | _ => none }
def FnExactStartViewWrongFalsely : Prop := fnExactStartViewRow.holds Try.pinned (OpenSpec.ofChange fnExactStartViewWrong)

/-- 'laws.FnExactRelaxAll': WHATEVER THE INPUT: true; the input reads as it did. -/
def fnExactRelaxAllSpec : ChangeSpec := { name := "fnExactRelaxAll", fn := fun _ => fun
  | [d1, d2] => { results := [.lit (.bool true)], args := [d1, d2] }
  | _ => none }
def fnExactRelaxAllRow : OpenClaim := { program := "ytddpljalojcomaa", sum := "88e2e992ea6f478199d08c0cdb63e0e19918e774bd76f3f1f34990b9f3a93f73", func := "loop.example/graphviews/laws.FnExactRelaxAll", spec := "fnExactRelaxAll", unfollowed := true, recurses := true, apart := false }
def FnExactRelaxAllSaid : Prop := fnExactRelaxAllRow.holds Try.pinned (OpenSpec.ofChange fnExactRelaxAllSpec)

/-- ITS FALSE NEIGHBOUR: 'it returns false'. Refute it at one input. -/
def fnExactRelaxAllWrong : ChangeSpec := { name := "fnExactRelaxAll", fn := fun _ => fun
  | [d1, d2] => { results := [.lit (.bool false)], args := [d1, d2] }
  | _ => none }
def FnExactRelaxAllWrongFalsely : Prop := fnExactRelaxAllRow.holds Try.pinned (OpenSpec.ofChange fnExactRelaxAllWrong)

/-- 'laws.FnExactIsStable': WHATEVER THE INPUT: true; the input reads as it did. -/
def fnExactIsStableSpec : ChangeSpec := { name := "fnExactIsStable", fn := fun _ => fun
  | [d1, d2] => { results := [.lit (.bool true)], args := [d1, d2] }
  | _ => none }
def fnExactIsStableRow : OpenClaim := { program := "ytddpljalojcomaa", sum := "88e2e992ea6f478199d08c0cdb63e0e19918e774bd76f3f1f34990b9f3a93f73", func := "loop.example/graphviews/laws.FnExactIsStable", spec := "fnExactIsStable", unfollowed := true, recurses := true, apart := false }
def FnExactIsStableSaid : Prop := fnExactIsStableRow.holds Try.pinned (OpenSpec.ofChange fnExactIsStableSpec)

/-- ITS FALSE NEIGHBOUR: 'it returns false'. Refute it at one input. -/
def fnExactIsStableWrong : ChangeSpec := { name := "fnExactIsStable", fn := fun _ => fun
  | [d1, d2] => { results := [.lit (.bool false)], args := [d1, d2] }
  | _ => none }
def FnExactIsStableWrongFalsely : Prop := fnExactIsStableRow.holds Try.pinned (OpenSpec.ofChange fnExactIsStableWrong)

/-- 'laws.FnExactViewOf': WHATEVER THE INPUT: true; the input reads as it did. -/
def fnExactViewOfSpec : ChangeSpec := { name := "fnExactViewOf", fn := fun _ => fun
  | [d1, d2, d3] => { results := [.lit (.bool true)], args := [d1, d2, d3] }
  | _ => none }
def fnExactViewOfRow : OpenClaim := { program := "ytddpljalojcomaa", sum := "88e2e992ea6f478199d08c0cdb63e0e19918e774bd76f3f1f34990b9f3a93f73", func := "loop.example/graphviews/laws.FnExactViewOf", spec := "fnExactViewOf", unfollowed := true, recurses := true, apart := false }
def FnExactViewOfSaid : Prop := fnExactViewOfRow.holds Try.pinned (OpenSpec.ofChange fnExactViewOfSpec)

/-- ITS FALSE NEIGHBOUR: 'it returns false'. Refute it at one input. -/
def fnExactViewOfWrong : ChangeSpec := { name := "fnExactViewOf", fn := fun _ => fun
  | [d1, d2, d3] => { results := [.lit (.bool false)], args := [d1, d2, d3] }
  | _ => none }
def FnExactViewOfWrongFalsely : Prop := fnExactViewOfRow.holds Try.pinned (OpenSpec.ofChange fnExactViewOfWrong)

/-- 'laws.FnExactRoundsOf': WHATEVER THE INPUT: true; the input reads as it did. -/
def fnExactRoundsOfSpec : ChangeSpec := { name := "fnExactRoundsOf", fn := fun _ => fun
  | [d1, d2, d3] => { results := [.lit (.bool true)], args := [d1, d2, d3] }
  | _ => none }
def fnExactRoundsOfRow : OpenClaim := { program := "ytddpljalojcomaa", sum := "88e2e992ea6f478199d08c0cdb63e0e19918e774bd76f3f1f34990b9f3a93f73", func := "loop.example/graphviews/laws.FnExactRoundsOf", spec := "fnExactRoundsOf", unfollowed := true, recurses := true, apart := false }
def FnExactRoundsOfSaid : Prop := fnExactRoundsOfRow.holds Try.pinned (OpenSpec.ofChange fnExactRoundsOfSpec)

/-- ITS FALSE NEIGHBOUR: 'it returns false'. Refute it at one input. -/
def fnExactRoundsOfWrong : ChangeSpec := { name := "fnExactRoundsOf", fn := fun _ => fun
  | [d1, d2, d3] => { results := [.lit (.bool false)], args := [d1, d2, d3] }
  | _ => none }
def FnExactRoundsOfWrongFalsely : Prop := fnExactRoundsOfRow.holds Try.pinned (OpenSpec.ofChange fnExactRoundsOfWrong)

/-- 'laws.FnExactBestWalk': WHATEVER THE INPUT: true; the input reads as it did. -/
def fnExactBestWalkSpec : ChangeSpec := { name := "fnExactBestWalk", fn := fun _ => fun
  | [d1, d2, d3, d4, d5] => { results := [.lit (.bool true)], args := [d1, d2, d3, d4, d5] }
  | _ => none }
def fnExactBestWalkRow : OpenClaim := { program := "ytddpljalojcomaa", sum := "88e2e992ea6f478199d08c0cdb63e0e19918e774bd76f3f1f34990b9f3a93f73", func := "loop.example/graphviews/laws.FnExactBestWalk", spec := "fnExactBestWalk", unfollowed := true, recurses := true, apart := false }
def FnExactBestWalkSaid : Prop := fnExactBestWalkRow.holds Try.pinned (OpenSpec.ofChange fnExactBestWalkSpec)

/-- ITS FALSE NEIGHBOUR: 'it returns false'. Refute it at one input. -/
def fnExactBestWalkWrong : ChangeSpec := { name := "fnExactBestWalk", fn := fun _ => fun
  | [d1, d2, d3, d4, d5] => { results := [.lit (.bool false)], args := [d1, d2, d3, d4, d5] }
  | _ => none }
def FnExactBestWalkWrongFalsely : Prop := fnExactBestWalkRow.holds Try.pinned (OpenSpec.ofChange fnExactBestWalkWrong)

/- THE SECOND FORM. 'bulk': how many values and letters a reading holds, each counted each time it is reached (what is shared counts as often as it is met; a slice's spare places count too). A statement '..UptoSaid' is the law's where the arguments, and the package variables that the reading takes, are together of bulk at most 1048576: NARROWER than '..Said'. Prove '..Said' where nothing that the law and all that it calls make is longer than what came in: it says more and counts as full. Else prove '..UptoSaid'. A law counts once. -/
mutual
def uptoBulk {H : Type} : DataW H → Nat
  | .lit (.string bytes) => bytes.length + 1
  | .lit _ => 1
  | .nil => 1
  | .ptr d => uptoBulk d + 1
  | .slice elems spare => uptoBulkAll elems + uptoBulkAll spare + 1
  | .agg parts => uptoBulkAll parts + 1
  | .iface _ d => uptoBulk d + 1
  | .map entries => uptoBulkEntries entries + 1
  | .held _ => 1
def uptoBulkAll {H : Type} : List (DataW H) → Nat
  | [] => 0
  | d :: r => uptoBulk d + uptoBulkAll r
def uptoBulkEntries {H : Type} : List (Lit × DataW H) → Nat
  | [] => 0
  | x :: r => uptoBulkEntry x + uptoBulkEntries r
def uptoBulkEntry {H : Type} : Lit × DataW H → Nat
  | (.string bytes, d) => bytes.length + uptoBulk d + 1
  | (_, d) => uptoBulk d + 1
 end
def uptoSmall : (H : Type) → List (DataW H) → Bool := fun _ ds => decide (uptoBulkAll ds ≤ 1048576)
def OpenSpec.upto (s : _root_.Go.ChangeSpec) : _root_.Go.OpenSpec := { _root_.Go.OpenSpec.ofChange s with cond := some uptoSmall }

/-- 'laws.FnExactViewSame', WHERE WHAT IT READS IS OF BULK AT MOST 1048576: true; the input reads as it did. -/
def fnExactViewSameUptoRow : OpenClaim := { program := "ytddpljalojcomaa", sum := "88e2e992ea6f478199d08c0cdb63e0e19918e774bd76f3f1f34990b9f3a93f73", func := "loop.example/graphviews/laws.FnExactViewSame", spec := "fnExactViewSame", apart := false, narrowed := true }
def FnExactViewSameUptoSaid : Prop := fnExactViewSameUptoRow.holds Try.pinned (OpenSpec.upto fnExactViewSameSpec)

/-- 'laws.FnExactViewValid', WHERE WHAT IT READS IS OF BULK AT MOST 1048576: true; the input reads as it did. -/
def fnExactViewValidUptoRow : OpenClaim := { program := "ytddpljalojcomaa", sum := "88e2e992ea6f478199d08c0cdb63e0e19918e774bd76f3f1f34990b9f3a93f73", func := "loop.example/graphviews/laws.FnExactViewValid", spec := "fnExactViewValid", unfollowed := true, recurses := true, apart := false, narrowed := true }
def FnExactViewValidUptoSaid : Prop := fnExactViewValidUptoRow.holds Try.pinned (OpenSpec.upto fnExactViewValidSpec)

/-- 'laws.FnExactStartView', WHERE WHAT IT READS IS OF BULK AT MOST 1048576: true; the input reads as it did. -/
def fnExactStartViewUptoRow : OpenClaim := { program := "ytddpljalojcomaa", sum := "88e2e992ea6f478199d08c0cdb63e0e19918e774bd76f3f1f34990b9f3a93f73", func := "loop.example/graphviews/laws.FnExactStartView", spec := "fnExactStartView", unfollowed := true, recurses := true, apart := false, narrowed := true }
def FnExactStartViewUptoSaid : Prop := fnExactStartViewUptoRow.holds Try.pinned (OpenSpec.upto fnExactStartViewSpec)

/-- 'laws.FnExactRelaxAll', WHERE WHAT IT READS IS OF BULK AT MOST 1048576: true; the input reads as it did. -/
def fnExactRelaxAllUptoRow : OpenClaim := { program := "ytddpljalojcomaa", sum := "88e2e992ea6f478199d08c0cdb63e0e19918e774bd76f3f1f34990b9f3a93f73", func := "loop.example/graphviews/laws.FnExactRelaxAll", spec := "fnExactRelaxAll", unfollowed := true, recurses := true, apart := false, narrowed := true }
def FnExactRelaxAllUptoSaid : Prop := fnExactRelaxAllUptoRow.holds Try.pinned (OpenSpec.upto fnExactRelaxAllSpec)

/-- 'laws.FnExactIsStable', WHERE WHAT IT READS IS OF BULK AT MOST 1048576: true; the input reads as it did. -/
def fnExactIsStableUptoRow : OpenClaim := { program := "ytddpljalojcomaa", sum := "88e2e992ea6f478199d08c0cdb63e0e19918e774bd76f3f1f34990b9f3a93f73", func := "loop.example/graphviews/laws.FnExactIsStable", spec := "fnExactIsStable", unfollowed := true, recurses := true, apart := false, narrowed := true }
def FnExactIsStableUptoSaid : Prop := fnExactIsStableUptoRow.holds Try.pinned (OpenSpec.upto fnExactIsStableSpec)

/-- 'laws.FnExactViewOf', WHERE WHAT IT READS IS OF BULK AT MOST 1048576: true; the input reads as it did. -/
def fnExactViewOfUptoRow : OpenClaim := { program := "ytddpljalojcomaa", sum := "88e2e992ea6f478199d08c0cdb63e0e19918e774bd76f3f1f34990b9f3a93f73", func := "loop.example/graphviews/laws.FnExactViewOf", spec := "fnExactViewOf", unfollowed := true, recurses := true, apart := false, narrowed := true }
def FnExactViewOfUptoSaid : Prop := fnExactViewOfUptoRow.holds Try.pinned (OpenSpec.upto fnExactViewOfSpec)

/-- 'laws.FnExactRoundsOf', WHERE WHAT IT READS IS OF BULK AT MOST 1048576: true; the input reads as it did. -/
def fnExactRoundsOfUptoRow : OpenClaim := { program := "ytddpljalojcomaa", sum := "88e2e992ea6f478199d08c0cdb63e0e19918e774bd76f3f1f34990b9f3a93f73", func := "loop.example/graphviews/laws.FnExactRoundsOf", spec := "fnExactRoundsOf", unfollowed := true, recurses := true, apart := false, narrowed := true }
def FnExactRoundsOfUptoSaid : Prop := fnExactRoundsOfUptoRow.holds Try.pinned (OpenSpec.upto fnExactRoundsOfSpec)

/-- 'laws.FnExactBestWalk', WHERE WHAT IT READS IS OF BULK AT MOST 1048576: true; the input reads as it did. -/
def fnExactBestWalkUptoRow : OpenClaim := { program := "ytddpljalojcomaa", sum := "88e2e992ea6f478199d08c0cdb63e0e19918e774bd76f3f1f34990b9f3a93f73", func := "loop.example/graphviews/laws.FnExactBestWalk", spec := "fnExactBestWalk", unfollowed := true, recurses := true, apart := false, narrowed := true }
def FnExactBestWalkUptoSaid : Prop := fnExactBestWalkUptoRow.holds Try.pinned (OpenSpec.upto fnExactBestWalkSpec)

end Rows
end Go.Proofs.Ytddpljalojcomaa
