/-
  No cell of these rows narrows 'for every input' (looked for: loops, veiled, ifaces, maps, wideKeys, modest, calm, conditions, laid).
  DERIVED. THE GIVEN ROWS OF THIS SEAT. 8 by the template 'for every input the law returns true; each argument reads behind the call as it read before'; 0 by the template 'total and deterministic' (their statements: YtmiomafgfeofnabTotals.lean).
  GIVEN WITH THE SEED: the statements are not yours to turn. If you find one false, say at which input.
  Laid BY PROGRAM, IN A SANDBOX (cutbox-rows.mjs): the forced cells as the released guide's own fill.sh prints them over the translation f31f461296cf0b8a… (all of the seat's roots in one cut). By AI agents, Wed Nov 11 2026. No macro, syntax, notation, axiom, sorry.
-/
import Derived.Test.YtmiomafgfeofnabChecked
import GoSem.Claim
import GoSem.ClaimJoined
import GoSem.ClaimMapViews
import Derived.JoinedTies
import Derived.KernelRfl
namespace Go.Proofs.Ytmiomafgfeofnab
/- THE CELL 'sum', in the pinned program and in every row, IS THE sha256 OF THE DUMP (.gsa) THAT YtmiomafgfeofnabProg.lean LOADS. Nothing in Lean hashes anything: it is a label: what it is worth is what the hold of that sum in a sandbox is worth. -/
noncomputable def Try.pinned : Pinned := { name := "ytmiomafgfeofnab", sum := "f31f461296cf0b8a1b9f660d6de383a35785e315c28c1a70aa9685bb420500a1", checked := Try.checked }
namespace Rows
def none {H : Type} : Left H := { results := [], args := [] }

/-- 'laws.FnExactNoPath': WHATEVER THE INPUT: true; the input reads as it did. -/
def fnExactNoPathSpec : ChangeSpec := { name := "fnExactNoPath", fn := fun _ => fun
  | [d] => { results := [.lit (.bool true)], args := [d] }
  | _ => none }
def fnExactNoPathRow : OpenClaim := { program := "ytmiomafgfeofnab", sum := "f31f461296cf0b8a1b9f660d6de383a35785e315c28c1a70aa9685bb420500a1", func := "loop.example/graphviews/laws.FnExactNoPath", spec := "fnExactNoPath", unfollowed := true, recurses := true, apart := false }
def FnExactNoPathSaid : Prop := fnExactNoPathRow.holds Try.pinned (OpenSpec.ofChange fnExactNoPathSpec)

/-- ITS FALSE NEIGHBOUR: 'it returns false'. Refute it at one input. -/
def fnExactNoPathWrong : ChangeSpec := { name := "fnExactNoPath", fn := fun _ => fun
  | [d] => { results := [.lit (.bool false)], args := [d] }
  | _ => none }
def FnExactNoPathWrongFalsely : Prop := fnExactNoPathRow.holds Try.pinned (OpenSpec.ofChange fnExactNoPathWrong)

/-- 'laws.FnExactEmptyPath': WHATEVER THE INPUT: true; the input reads as it did. -/
def fnExactEmptyPathSpec : ChangeSpec := { name := "fnExactEmptyPath", fn := fun _ => fun
  | [d] => { results := [.lit (.bool true)], args := [d] }
  | _ => none }
def fnExactEmptyPathRow : OpenClaim := { program := "ytmiomafgfeofnab", sum := "f31f461296cf0b8a1b9f660d6de383a35785e315c28c1a70aa9685bb420500a1", func := "loop.example/graphviews/laws.FnExactEmptyPath", spec := "fnExactEmptyPath", unfollowed := true, recurses := true, apart := false }
def FnExactEmptyPathSaid : Prop := fnExactEmptyPathRow.holds Try.pinned (OpenSpec.ofChange fnExactEmptyPathSpec)

/-- ITS FALSE NEIGHBOUR: 'it returns false'. Refute it at one input. -/
def fnExactEmptyPathWrong : ChangeSpec := { name := "fnExactEmptyPath", fn := fun _ => fun
  | [d] => { results := [.lit (.bool false)], args := [d] }
  | _ => none }
def FnExactEmptyPathWrongFalsely : Prop := fnExactEmptyPathRow.holds Try.pinned (OpenSpec.ofChange fnExactEmptyPathWrong)

/-- 'laws.FnExactEdgeMeasure': WHATEVER THE INPUT: true; the input reads as it did. -/
def fnExactEdgeMeasureSpec : ChangeSpec := { name := "fnExactEdgeMeasure", fn := fun _ => fun
  | [d1, d2] => { results := [.lit (.bool true)], args := [d1, d2] }
  | _ => none }
def fnExactEdgeMeasureRow : OpenClaim := { program := "ytmiomafgfeofnab", sum := "f31f461296cf0b8a1b9f660d6de383a35785e315c28c1a70aa9685bb420500a1", func := "loop.example/graphviews/laws.FnExactEdgeMeasure", spec := "fnExactEdgeMeasure", unfollowed := true, recurses := true, apart := false }
def FnExactEdgeMeasureSaid : Prop := fnExactEdgeMeasureRow.holds Try.pinned (OpenSpec.ofChange fnExactEdgeMeasureSpec)

/-- ITS FALSE NEIGHBOUR: 'it returns false'. Refute it at one input. -/
def fnExactEdgeMeasureWrong : ChangeSpec := { name := "fnExactEdgeMeasure", fn := fun _ => fun
  | [d1, d2] => { results := [.lit (.bool false)], args := [d1, d2] }
  | _ => none }
def FnExactEdgeMeasureWrongFalsely : Prop := fnExactEdgeMeasureRow.holds Try.pinned (OpenSpec.ofChange fnExactEdgeMeasureWrong)

/-- 'laws.FnExactValueValid': WHATEVER THE INPUT: true; the input reads as it did. -/
def fnExactValueValidSpec : ChangeSpec := { name := "fnExactValueValid", fn := fun _ => fun
  | [d1, d2] => { results := [.lit (.bool true)], args := [d1, d2] }
  | _ => none }
def fnExactValueValidRow : OpenClaim := { program := "ytmiomafgfeofnab", sum := "f31f461296cf0b8a1b9f660d6de383a35785e315c28c1a70aa9685bb420500a1", func := "loop.example/graphviews/laws.FnExactValueValid", spec := "fnExactValueValid", unfollowed := true, recurses := true, apart := false }
def FnExactValueValidSaid : Prop := fnExactValueValidRow.holds Try.pinned (OpenSpec.ofChange fnExactValueValidSpec)

/-- ITS FALSE NEIGHBOUR: 'it returns false'. Refute it at one input. -/
def fnExactValueValidWrong : ChangeSpec := { name := "fnExactValueValid", fn := fun _ => fun
  | [d1, d2] => { results := [.lit (.bool false)], args := [d1, d2] }
  | _ => none }
def FnExactValueValidWrongFalsely : Prop := fnExactValueValidRow.holds Try.pinned (OpenSpec.ofChange fnExactValueValidWrong)

/-- 'laws.FnExactBetterOf': WHATEVER THE INPUT: true; the input reads as it did. -/
def fnExactBetterOfSpec : ChangeSpec := { name := "fnExactBetterOf", fn := fun _ => fun
  | [d1, d2, d3] => { results := [.lit (.bool true)], args := [d1, d2, d3] }
  | _ => none }
def fnExactBetterOfRow : OpenClaim := { program := "ytmiomafgfeofnab", sum := "f31f461296cf0b8a1b9f660d6de383a35785e315c28c1a70aa9685bb420500a1", func := "loop.example/graphviews/laws.FnExactBetterOf", spec := "fnExactBetterOf", unfollowed := true, recurses := true, apart := false }
def FnExactBetterOfSaid : Prop := fnExactBetterOfRow.holds Try.pinned (OpenSpec.ofChange fnExactBetterOfSpec)

/-- ITS FALSE NEIGHBOUR: 'it returns false'. Refute it at one input. -/
def fnExactBetterOfWrong : ChangeSpec := { name := "fnExactBetterOf", fn := fun _ => fun
  | [d1, d2, d3] => { results := [.lit (.bool false)], args := [d1, d2, d3] }
  | _ => none }
def FnExactBetterOfWrongFalsely : Prop := fnExactBetterOfRow.holds Try.pinned (OpenSpec.ofChange fnExactBetterOfWrong)

/-- 'laws.FnExactIsBetter': WHATEVER THE INPUT: true; the input reads as it did. -/
def fnExactIsBetterSpec : ChangeSpec := { name := "fnExactIsBetter", fn := fun _ => fun
  | [d1, d2, d3] => { results := [.lit (.bool true)], args := [d1, d2, d3] }
  | _ => none }
def fnExactIsBetterRow : OpenClaim := { program := "ytmiomafgfeofnab", sum := "f31f461296cf0b8a1b9f660d6de383a35785e315c28c1a70aa9685bb420500a1", func := "loop.example/graphviews/laws.FnExactIsBetter", spec := "fnExactIsBetter", unfollowed := true, recurses := true, apart := false }
def FnExactIsBetterSaid : Prop := fnExactIsBetterRow.holds Try.pinned (OpenSpec.ofChange fnExactIsBetterSpec)

/-- ITS FALSE NEIGHBOUR: 'it returns false'. Refute it at one input. -/
def fnExactIsBetterWrong : ChangeSpec := { name := "fnExactIsBetter", fn := fun _ => fun
  | [d1, d2, d3] => { results := [.lit (.bool false)], args := [d1, d2, d3] }
  | _ => none }
def FnExactIsBetterWrongFalsely : Prop := fnExactIsBetterRow.holds Try.pinned (OpenSpec.ofChange fnExactIsBetterWrong)

/-- 'laws.FnExactExtend': WHATEVER THE INPUT: true; the input reads as it did. -/
def fnExactExtendSpec : ChangeSpec := { name := "fnExactExtend", fn := fun _ => fun
  | [d1, d2, d3] => { results := [.lit (.bool true)], args := [d1, d2, d3] }
  | _ => none }
def fnExactExtendRow : OpenClaim := { program := "ytmiomafgfeofnab", sum := "f31f461296cf0b8a1b9f660d6de383a35785e315c28c1a70aa9685bb420500a1", func := "loop.example/graphviews/laws.FnExactExtend", spec := "fnExactExtend", unfollowed := true, recurses := true, apart := false }
def FnExactExtendSaid : Prop := fnExactExtendRow.holds Try.pinned (OpenSpec.ofChange fnExactExtendSpec)

/-- ITS FALSE NEIGHBOUR: 'it returns false'. Refute it at one input. -/
def fnExactExtendWrong : ChangeSpec := { name := "fnExactExtend", fn := fun _ => fun
  | [d1, d2, d3] => { results := [.lit (.bool false)], args := [d1, d2, d3] }
  | _ => none }
def FnExactExtendWrongFalsely : Prop := fnExactExtendRow.holds Try.pinned (OpenSpec.ofChange fnExactExtendWrong)

/-- 'laws.FnExactPathMeasure': WHATEVER THE INPUT: true; the input reads as it did. -/
def fnExactPathMeasureSpec : ChangeSpec := { name := "fnExactPathMeasure", fn := fun _ => fun
  | [d1, d2] => { results := [.lit (.bool true)], args := [d1, d2] }
  | _ => none }
def fnExactPathMeasureRow : OpenClaim := { program := "ytmiomafgfeofnab", sum := "f31f461296cf0b8a1b9f660d6de383a35785e315c28c1a70aa9685bb420500a1", func := "loop.example/graphviews/laws.FnExactPathMeasure", spec := "fnExactPathMeasure", unfollowed := true, recurses := true, apart := false }
def FnExactPathMeasureSaid : Prop := fnExactPathMeasureRow.holds Try.pinned (OpenSpec.ofChange fnExactPathMeasureSpec)

/-- ITS FALSE NEIGHBOUR: 'it returns false'. Refute it at one input. -/
def fnExactPathMeasureWrong : ChangeSpec := { name := "fnExactPathMeasure", fn := fun _ => fun
  | [d1, d2] => { results := [.lit (.bool false)], args := [d1, d2] }
  | _ => none }
def FnExactPathMeasureWrongFalsely : Prop := fnExactPathMeasureRow.holds Try.pinned (OpenSpec.ofChange fnExactPathMeasureWrong)

/- THE SECOND FORM. 'bulk': how many values and letters a reading holds, each counted each time it is reached (what is shared counts as often as it is met; a slice's spare places count too). A statement '..UptoSaid' is the law's where the arguments, and the package variables that the reading takes, are together of bulk at most 1048576: NARROWER than '..Said'. Prove '..Said' where nothing that the law and all that it calls make is longer than what came in: it says more and counts as full. Else prove '..UptoSaid'. A law counts once. -/
mutual
def uptoBulk {H : Type} : DataW H → Nat
  | .lit (.string bytes) => bytes.length + 1
  | .lit _ => 1
  | .nil => 1
  | .ptr d => uptoBulk d + 1
  | .slice elems spare => uptoBulkAll elems + uptoBulkAll spare + 1
  | .agg parts => uptoBulkAll parts + 1
  | .iface _ d => uptoBulk d + 1
  | .map entries => uptoBulkEntries entries + 1
  | .held _ => 1
def uptoBulkAll {H : Type} : List (DataW H) → Nat
  | [] => 0
  | d :: r => uptoBulk d + uptoBulkAll r
def uptoBulkEntries {H : Type} : List (Lit × DataW H) → Nat
  | [] => 0
  | x :: r => uptoBulkEntry x + uptoBulkEntries r
def uptoBulkEntry {H : Type} : Lit × DataW H → Nat
  | (.string bytes, d) => bytes.length + uptoBulk d + 1
  | (_, d) => uptoBulk d + 1
 end
def uptoSmall : (H : Type) → List (DataW H) → Bool := fun _ ds => decide (uptoBulkAll ds ≤ 1048576)
def OpenSpec.upto (s : _root_.Go.ChangeSpec) : _root_.Go.OpenSpec := { _root_.Go.OpenSpec.ofChange s with cond := some uptoSmall }

/-- 'laws.FnExactNoPath', WHERE WHAT IT READS IS OF BULK AT MOST 1048576: true; the input reads as it did. -/
def fnExactNoPathUptoRow : OpenClaim := { program := "ytmiomafgfeofnab", sum := "f31f461296cf0b8a1b9f660d6de383a35785e315c28c1a70aa9685bb420500a1", func := "loop.example/graphviews/laws.FnExactNoPath", spec := "fnExactNoPath", unfollowed := true, recurses := true, apart := false, narrowed := true }
def FnExactNoPathUptoSaid : Prop := fnExactNoPathUptoRow.holds Try.pinned (OpenSpec.upto fnExactNoPathSpec)

/-- 'laws.FnExactEmptyPath', WHERE WHAT IT READS IS OF BULK AT MOST 1048576: true; the input reads as it did. -/
def fnExactEmptyPathUptoRow : OpenClaim := { program := "ytmiomafgfeofnab", sum := "f31f461296cf0b8a1b9f660d6de383a35785e315c28c1a70aa9685bb420500a1", func := "loop.example/graphviews/laws.FnExactEmptyPath", spec := "fnExactEmptyPath", unfollowed := true, recurses := true, apart := false, narrowed := true }
def FnExactEmptyPathUptoSaid : Prop := fnExactEmptyPathUptoRow.holds Try.pinned (OpenSpec.upto fnExactEmptyPathSpec)

/-- 'laws.FnExactEdgeMeasure', WHERE WHAT IT READS IS OF BULK AT MOST 1048576: true; the input reads as it did. -/
def fnExactEdgeMeasureUptoRow : OpenClaim := { program := "ytmiomafgfeofnab", sum := "f31f461296cf0b8a1b9f660d6de383a35785e315c28c1a70aa9685bb420500a1", func := "loop.example/graphviews/laws.FnExactEdgeMeasure", spec := "fnExactEdgeMeasure", unfollowed := true, recurses := true, apart := false, narrowed := true }
def FnExactEdgeMeasureUptoSaid : Prop := fnExactEdgeMeasureUptoRow.holds Try.pinned (OpenSpec.upto fnExactEdgeMeasureSpec)

/-- 'laws.FnExactValueValid', WHERE WHAT IT READS IS OF BULK AT MOST 1048576: true; the input reads as it did. -/
def fnExactValueValidUptoRow : OpenClaim := { program := "ytmiomafgfeofnab", sum := "f31f461296cf0b8a1b9f660d6de383a35785e315c28c1a70aa9685bb420500a1", func := "loop.example/graphviews/laws.FnExactValueValid", spec := "fnExactValueValid", unfollowed := true, recurses := true, apart := false, narrowed := true }
def FnExactValueValidUptoSaid : Prop := fnExactValueValidUptoRow.holds Try.pinned (OpenSpec.upto fnExactValueValidSpec)

/-- 'laws.FnExactBetterOf', WHERE WHAT IT READS IS OF BULK AT MOST 1048576: true; the input reads as it did. -/
def fnExactBetterOfUptoRow : OpenClaim := { program := "ytmiomafgfeofnab", sum := "f31f461296cf0b8a1b9f660d6de383a35785e315c28c1a70aa9685bb420500a1", func := "loop.example/graphviews/laws.FnExactBetterOf", spec := "fnExactBetterOf", unfollowed := true, recurses := true, apart := false, narrowed := true }
def FnExactBetterOfUptoSaid : Prop := fnExactBetterOfUptoRow.holds Try.pinned (OpenSpec.upto fnExactBetterOfSpec)

/-- 'laws.FnExactIsBetter', WHERE WHAT IT READS IS OF BULK AT MOST 1048576: true; the input reads as it did. -/
def fnExactIsBetterUptoRow : OpenClaim := { program := "ytmiomafgfeofnab", sum := "f31f461296cf0b8a1b9f660d6de383a35785e315c28c1a70aa9685bb420500a1", func := "loop.example/graphviews/laws.FnExactIsBetter", spec := "fnExactIsBetter", unfollowed := true, recurses := true, apart := false, narrowed := true }
def FnExactIsBetterUptoSaid : Prop := fnExactIsBetterUptoRow.holds Try.pinned (OpenSpec.upto fnExactIsBetterSpec)

/-- 'laws.FnExactExtend', WHERE WHAT IT READS IS OF BULK AT MOST 1048576: true; the input reads as it did. -/
def fnExactExtendUptoRow : OpenClaim := { program := "ytmiomafgfeofnab", sum := "f31f461296cf0b8a1b9f660d6de383a35785e315c28c1a70aa9685bb420500a1", func := "loop.example/graphviews/laws.FnExactExtend", spec := "fnExactExtend", unfollowed := true, recurses := true, apart := false, narrowed := true }
def FnExactExtendUptoSaid : Prop := fnExactExtendUptoRow.holds Try.pinned (OpenSpec.upto fnExactExtendSpec)

/-- 'laws.FnExactPathMeasure', WHERE WHAT IT READS IS OF BULK AT MOST 1048576: true; the input reads as it did. -/
def fnExactPathMeasureUptoRow : OpenClaim := { program := "ytmiomafgfeofnab", sum := "f31f461296cf0b8a1b9f660d6de383a35785e315c28c1a70aa9685bb420500a1", func := "loop.example/graphviews/laws.FnExactPathMeasure", spec := "fnExactPathMeasure", unfollowed := true, recurses := true, apart := false, narrowed := true }
def FnExactPathMeasureUptoSaid : Prop := fnExactPathMeasureUptoRow.holds Try.pinned (OpenSpec.upto fnExactPathMeasureSpec)

end Rows
end Go.Proofs.Ytmiomafgfeofnab
