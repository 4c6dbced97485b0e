/-
  No cell of these rows narrows 'for every input' (looked for: loops, veiled, ifaces, maps, wideKeys, modest, calm, conditions, laid).
  DERIVED. THE GIVEN ROWS OF THIS SEAT. 12 by the template 'for every input the law returns true; each argument reads behind the call as it read before'; 0 by the template 'total and deterministic' (their statements: YtmiomafgfeofnaaTotals.lean).
  GIVEN WITH THE SEED: the statements are not yours to turn. If you find one false, say at which input.
  Laid BY PROGRAM, IN A SANDBOX (cutbox-rows.mjs): the forced cells as the released guide's own fill.sh prints them over the translation aec80d2ecfb8bac5… (all of the seat's roots in one cut). By AI agents, Wed Nov 11 2026. No macro, syntax, notation, axiom, sorry.
-/
import Derived.Test.YtmiomafgfeofnaaChecked
import GoSem.Claim
import GoSem.ClaimJoined
import GoSem.ClaimMapViews
import Derived.JoinedTies
import Derived.KernelRfl
namespace Go.Proofs.Ytmiomafgfeofnaa
/- THE CELL 'sum', in the pinned program and in every row, IS THE sha256 OF THE DUMP (.gsa) THAT YtmiomafgfeofnaaProg.lean LOADS. Nothing in Lean hashes anything: it is a label: what it is worth is what the hold of that sum in a sandbox is worth. -/
noncomputable def Try.pinned : Pinned := { name := "ytmiomafgfeofnaa", sum := "aec80d2ecfb8bac5d00f1597aa24a824e7e72d506c4708d561005edfb22899cf", checked := Try.checked }
namespace Rows
def none {H : Type} : Left H := { results := [], args := [] }

/-- 'laws.FnExtend': WHATEVER THE INPUT: true; the input reads as it did. -/
def fnExtendSpec : ChangeSpec := { name := "fnExtend", fn := fun _ => fun
  | [d1, d2] => { results := [.lit (.bool true)], args := [d1, d2] }
  | _ => none }
def fnExtendRow : OpenClaim := { program := "ytmiomafgfeofnaa", sum := "aec80d2ecfb8bac5d00f1597aa24a824e7e72d506c4708d561005edfb22899cf", func := "loop.example/graphviews/laws.FnExtend", spec := "fnExtend", unfollowed := true, recurses := true, apart := false }
def FnExtendSaid : Prop := fnExtendRow.holds Try.pinned (OpenSpec.ofChange fnExtendSpec)

/-- ITS FALSE NEIGHBOUR: 'it returns false'. Refute it at one input. -/
def fnExtendWrong : ChangeSpec := { name := "fnExtend", fn := fun _ => fun
  | [d1, d2] => { results := [.lit (.bool false)], args := [d1, d2] }
  | _ => none }
def FnExtendWrongFalsely : Prop := fnExtendRow.holds Try.pinned (OpenSpec.ofChange fnExtendWrong)

/-- 'laws.FnExtendWorse': WHATEVER THE INPUT: true; the input reads as it did. -/
def fnExtendWorseSpec : ChangeSpec := { name := "fnExtendWorse", fn := fun _ => fun
  | [d1, d2] => { results := [.lit (.bool true)], args := [d1, d2] }
  | _ => none }
def fnExtendWorseRow : OpenClaim := { program := "ytmiomafgfeofnaa", sum := "aec80d2ecfb8bac5d00f1597aa24a824e7e72d506c4708d561005edfb22899cf", func := "loop.example/graphviews/laws.FnExtendWorse", spec := "fnExtendWorse", unfollowed := true, recurses := true, apart := false }
def FnExtendWorseSaid : Prop := fnExtendWorseRow.holds Try.pinned (OpenSpec.ofChange fnExtendWorseSpec)

/-- ITS FALSE NEIGHBOUR: 'it returns false'. Refute it at one input. -/
def fnExtendWorseWrong : ChangeSpec := { name := "fnExtendWorse", fn := fun _ => fun
  | [d1, d2] => { results := [.lit (.bool false)], args := [d1, d2] }
  | _ => none }
def FnExtendWorseWrongFalsely : Prop := fnExtendWorseRow.holds Try.pinned (OpenSpec.ofChange fnExtendWorseWrong)

/-- 'laws.FnBetterOf': WHATEVER THE INPUT: true; the input reads as it did. -/
def fnBetterOfSpec : ChangeSpec := { name := "fnBetterOf", fn := fun _ => fun
  | [d] => { results := [.lit (.bool true)], args := [d] }
  | _ => none }
def fnBetterOfRow : OpenClaim := { program := "ytmiomafgfeofnaa", sum := "aec80d2ecfb8bac5d00f1597aa24a824e7e72d506c4708d561005edfb22899cf", func := "loop.example/graphviews/laws.FnBetterOf", spec := "fnBetterOf", unfollowed := true, recurses := true, apart := false }
def FnBetterOfSaid : Prop := fnBetterOfRow.holds Try.pinned (OpenSpec.ofChange fnBetterOfSpec)

/-- ITS FALSE NEIGHBOUR: 'it returns false'. Refute it at one input. -/
def fnBetterOfWrong : ChangeSpec := { name := "fnBetterOf", fn := fun _ => fun
  | [d] => { results := [.lit (.bool false)], args := [d] }
  | _ => none }
def FnBetterOfWrongFalsely : Prop := fnBetterOfRow.holds Try.pinned (OpenSpec.ofChange fnBetterOfWrong)

/-- 'laws.FnDistribute': WHATEVER THE INPUT: true; the input reads as it did. -/
def fnDistributeSpec : ChangeSpec := { name := "fnDistribute", fn := fun _ => fun
  | [d1, d2] => { results := [.lit (.bool true)], args := [d1, d2] }
  | _ => none }
def fnDistributeRow : OpenClaim := { program := "ytmiomafgfeofnaa", sum := "aec80d2ecfb8bac5d00f1597aa24a824e7e72d506c4708d561005edfb22899cf", func := "loop.example/graphviews/laws.FnDistribute", spec := "fnDistribute", unfollowed := true, recurses := true, apart := false }
def FnDistributeSaid : Prop := fnDistributeRow.holds Try.pinned (OpenSpec.ofChange fnDistributeSpec)

/-- ITS FALSE NEIGHBOUR: 'it returns false'. Refute it at one input. -/
def fnDistributeWrong : ChangeSpec := { name := "fnDistribute", fn := fun _ => fun
  | [d1, d2] => { results := [.lit (.bool false)], args := [d1, d2] }
  | _ => none }
def FnDistributeWrongFalsely : Prop := fnDistributeRow.holds Try.pinned (OpenSpec.ofChange fnDistributeWrong)

/-- 'laws.FnPathMeasure': WHATEVER THE INPUT: true; the input reads as it did. -/
def fnPathMeasureSpec : ChangeSpec := { name := "fnPathMeasure", fn := fun _ => fun
  | [d] => { results := [.lit (.bool true)], args := [d] }
  | _ => none }
def fnPathMeasureRow : OpenClaim := { program := "ytmiomafgfeofnaa", sum := "aec80d2ecfb8bac5d00f1597aa24a824e7e72d506c4708d561005edfb22899cf", func := "loop.example/graphviews/laws.FnPathMeasure", spec := "fnPathMeasure", unfollowed := true, recurses := true, apart := false }
def FnPathMeasureSaid : Prop := fnPathMeasureRow.holds Try.pinned (OpenSpec.ofChange fnPathMeasureSpec)

/-- ITS FALSE NEIGHBOUR: 'it returns false'. Refute it at one input. -/
def fnPathMeasureWrong : ChangeSpec := { name := "fnPathMeasure", fn := fun _ => fun
  | [d] => { results := [.lit (.bool false)], args := [d] }
  | _ => none }
def FnPathMeasureWrongFalsely : Prop := fnPathMeasureRow.holds Try.pinned (OpenSpec.ofChange fnPathMeasureWrong)

/-- 'laws.FnIsBetter': WHATEVER THE INPUT: true; the input reads as it did. -/
def fnIsBetterSpec : ChangeSpec := { name := "fnIsBetter", fn := fun _ => fun
  | [d] => { results := [.lit (.bool true)], args := [d] }
  | _ => none }
def fnIsBetterRow : OpenClaim := { program := "ytmiomafgfeofnaa", sum := "aec80d2ecfb8bac5d00f1597aa24a824e7e72d506c4708d561005edfb22899cf", func := "loop.example/graphviews/laws.FnIsBetter", spec := "fnIsBetter", unfollowed := true, recurses := true, apart := false }
def FnIsBetterSaid : Prop := fnIsBetterRow.holds Try.pinned (OpenSpec.ofChange fnIsBetterSpec)

/-- ITS FALSE NEIGHBOUR: 'it returns false'. Refute it at one input. -/
def fnIsBetterWrong : ChangeSpec := { name := "fnIsBetter", fn := fun _ => fun
  | [d] => { results := [.lit (.bool false)], args := [d] }
  | _ => none }
def FnIsBetterWrongFalsely : Prop := fnIsBetterRow.holds Try.pinned (OpenSpec.ofChange fnIsBetterWrong)

/-- 'laws.FnNoPath': WHATEVER THE INPUT: true; the input reads as it did. -/
def fnNoPathSpec : ChangeSpec := { name := "fnNoPath", fn := fun _ => fun
  | [d] => { results := [.lit (.bool true)], args := [d] }
  | _ => none }
def fnNoPathRow : OpenClaim := { program := "ytmiomafgfeofnaa", sum := "aec80d2ecfb8bac5d00f1597aa24a824e7e72d506c4708d561005edfb22899cf", func := "loop.example/graphviews/laws.FnNoPath", spec := "fnNoPath", unfollowed := true, recurses := true, apart := false }
def FnNoPathSaid : Prop := fnNoPathRow.holds Try.pinned (OpenSpec.ofChange fnNoPathSpec)

/-- ITS FALSE NEIGHBOUR: 'it returns false'. Refute it at one input. -/
def fnNoPathWrong : ChangeSpec := { name := "fnNoPath", fn := fun _ => fun
  | [d] => { results := [.lit (.bool false)], args := [d] }
  | _ => none }
def FnNoPathWrongFalsely : Prop := fnNoPathRow.holds Try.pinned (OpenSpec.ofChange fnNoPathWrong)

/-- 'laws.FnEmptyPath': WHATEVER THE INPUT: true; the input reads as it did. -/
def fnEmptyPathSpec : ChangeSpec := { name := "fnEmptyPath", fn := fun _ => fun
  | [d] => { results := [.lit (.bool true)], args := [d] }
  | _ => none }
def fnEmptyPathRow : OpenClaim := { program := "ytmiomafgfeofnaa", sum := "aec80d2ecfb8bac5d00f1597aa24a824e7e72d506c4708d561005edfb22899cf", func := "loop.example/graphviews/laws.FnEmptyPath", spec := "fnEmptyPath", unfollowed := true, recurses := true, apart := false }
def FnEmptyPathSaid : Prop := fnEmptyPathRow.holds Try.pinned (OpenSpec.ofChange fnEmptyPathSpec)

/-- ITS FALSE NEIGHBOUR: 'it returns false'. Refute it at one input. -/
def fnEmptyPathWrong : ChangeSpec := { name := "fnEmptyPath", fn := fun _ => fun
  | [d] => { results := [.lit (.bool false)], args := [d] }
  | _ => none }
def FnEmptyPathWrongFalsely : Prop := fnEmptyPathRow.holds Try.pinned (OpenSpec.ofChange fnEmptyPathWrong)

/-- 'laws.FnEdgeMeasure': WHATEVER THE INPUT: true; the input reads as it did. -/
def fnEdgeMeasureSpec : ChangeSpec := { name := "fnEdgeMeasure", fn := fun _ => fun
  | [d] => { results := [.lit (.bool true)], args := [d] }
  | _ => none }
def fnEdgeMeasureRow : OpenClaim := { program := "ytmiomafgfeofnaa", sum := "aec80d2ecfb8bac5d00f1597aa24a824e7e72d506c4708d561005edfb22899cf", func := "loop.example/graphviews/laws.FnEdgeMeasure", spec := "fnEdgeMeasure", unfollowed := true, recurses := true, apart := false }
def FnEdgeMeasureSaid : Prop := fnEdgeMeasureRow.holds Try.pinned (OpenSpec.ofChange fnEdgeMeasureSpec)

/-- ITS FALSE NEIGHBOUR: 'it returns false'. Refute it at one input. -/
def fnEdgeMeasureWrong : ChangeSpec := { name := "fnEdgeMeasure", fn := fun _ => fun
  | [d] => { results := [.lit (.bool false)], args := [d] }
  | _ => none }
def FnEdgeMeasureWrongFalsely : Prop := fnEdgeMeasureRow.holds Try.pinned (OpenSpec.ofChange fnEdgeMeasureWrong)

/-- 'laws.FnBetterTrans': WHATEVER THE INPUT: true; the input reads as it did. -/
def fnBetterTransSpec : ChangeSpec := { name := "fnBetterTrans", fn := fun _ => fun
  | [d1, d2] => { results := [.lit (.bool true)], args := [d1, d2] }
  | _ => none }
def fnBetterTransRow : OpenClaim := { program := "ytmiomafgfeofnaa", sum := "aec80d2ecfb8bac5d00f1597aa24a824e7e72d506c4708d561005edfb22899cf", func := "loop.example/graphviews/laws.FnBetterTrans", spec := "fnBetterTrans", unfollowed := true, recurses := true, apart := false }
def FnBetterTransSaid : Prop := fnBetterTransRow.holds Try.pinned (OpenSpec.ofChange fnBetterTransSpec)

/-- ITS FALSE NEIGHBOUR: 'it returns false'. Refute it at one input. -/
def fnBetterTransWrong : ChangeSpec := { name := "fnBetterTrans", fn := fun _ => fun
  | [d1, d2] => { results := [.lit (.bool false)], args := [d1, d2] }
  | _ => none }
def FnBetterTransWrongFalsely : Prop := fnBetterTransRow.holds Try.pinned (OpenSpec.ofChange fnBetterTransWrong)

/-- 'laws.FnPathOrder': WHATEVER THE INPUT: true; the input reads as it did. -/
def fnPathOrderSpec : ChangeSpec := { name := "fnPathOrder", fn := fun _ => fun
  | [d] => { results := [.lit (.bool true)], args := [d] }
  | _ => none }
def fnPathOrderRow : OpenClaim := { program := "ytmiomafgfeofnaa", sum := "aec80d2ecfb8bac5d00f1597aa24a824e7e72d506c4708d561005edfb22899cf", func := "loop.example/graphviews/laws.FnPathOrder", spec := "fnPathOrder", unfollowed := true, recurses := true, apart := false }
def FnPathOrderSaid : Prop := fnPathOrderRow.holds Try.pinned (OpenSpec.ofChange fnPathOrderSpec)

/-- ITS FALSE NEIGHBOUR: 'it returns false'. Refute it at one input. -/
def fnPathOrderWrong : ChangeSpec := { name := "fnPathOrder", fn := fun _ => fun
  | [d] => { results := [.lit (.bool false)], args := [d] }
  | _ => none }
def FnPathOrderWrongFalsely : Prop := fnPathOrderRow.holds Try.pinned (OpenSpec.ofChange fnPathOrderWrong)

/-- 'laws.FnExactMeasureValid': WHATEVER THE INPUT: true; the input reads as it did. -/
def fnExactMeasureValidSpec : ChangeSpec := { name := "fnExactMeasureValid", fn := fun _ => fun
  | [d] => { results := [.lit (.bool true)], args := [d] }
  | _ => none }
def fnExactMeasureValidRow : OpenClaim := { program := "ytmiomafgfeofnaa", sum := "aec80d2ecfb8bac5d00f1597aa24a824e7e72d506c4708d561005edfb22899cf", func := "loop.example/graphviews/laws.FnExactMeasureValid", spec := "fnExactMeasureValid", apart := false }
def FnExactMeasureValidSaid : Prop := fnExactMeasureValidRow.holds Try.pinned (OpenSpec.ofChange fnExactMeasureValidSpec)

/-- ITS FALSE NEIGHBOUR: 'it returns false'. Refute it at one input. -/
def fnExactMeasureValidWrong : ChangeSpec := { name := "fnExactMeasureValid", fn := fun _ => fun
  | [d] => { results := [.lit (.bool false)], args := [d] }
  | _ => none }
def FnExactMeasureValidWrongFalsely : Prop := fnExactMeasureValidRow.holds Try.pinned (OpenSpec.ofChange fnExactMeasureValidWrong)

/- THE SECOND FORM. 'bulk': how many values and letters a reading holds, each counted each time it is reached (what is shared counts as often as it is met; a slice's spare places count too). A statement '..UptoSaid' is the law's where the arguments, and the package variables that the reading takes, are together of bulk at most 1048576: NARROWER than '..Said'. Prove '..Said' where nothing that the law and all that it calls make is longer than what came in: it says more and counts as full. Else prove '..UptoSaid'. A law counts once. -/
mutual
def uptoBulk {H : Type} : DataW H → Nat
  | .lit (.string bytes) => bytes.length + 1
  | .lit _ => 1
  | .nil => 1
  | .ptr d => uptoBulk d + 1
  | .slice elems spare => uptoBulkAll elems + uptoBulkAll spare + 1
  | .agg parts => uptoBulkAll parts + 1
  | .iface _ d => uptoBulk d + 1
  | .map entries => uptoBulkEntries entries + 1
  | .held _ => 1
def uptoBulkAll {H : Type} : List (DataW H) → Nat
  | [] => 0
  | d :: r => uptoBulk d + uptoBulkAll r
def uptoBulkEntries {H : Type} : List (Lit × DataW H) → Nat
  | [] => 0
  | x :: r => uptoBulkEntry x + uptoBulkEntries r
def uptoBulkEntry {H : Type} : Lit × DataW H → Nat
  | (.string bytes, d) => bytes.length + uptoBulk d + 1
  | (_, d) => uptoBulk d + 1
 end
def uptoSmall : (H : Type) → List (DataW H) → Bool := fun _ ds => decide (uptoBulkAll ds ≤ 1048576)
def OpenSpec.upto (s : _root_.Go.ChangeSpec) : _root_.Go.OpenSpec := { _root_.Go.OpenSpec.ofChange s with cond := some uptoSmall }

/-- 'laws.FnExtend', WHERE WHAT IT READS IS OF BULK AT MOST 1048576: true; the input reads as it did. -/
def fnExtendUptoRow : OpenClaim := { program := "ytmiomafgfeofnaa", sum := "aec80d2ecfb8bac5d00f1597aa24a824e7e72d506c4708d561005edfb22899cf", func := "loop.example/graphviews/laws.FnExtend", spec := "fnExtend", unfollowed := true, recurses := true, apart := false, narrowed := true }
def FnExtendUptoSaid : Prop := fnExtendUptoRow.holds Try.pinned (OpenSpec.upto fnExtendSpec)

/-- 'laws.FnExtendWorse', WHERE WHAT IT READS IS OF BULK AT MOST 1048576: true; the input reads as it did. -/
def fnExtendWorseUptoRow : OpenClaim := { program := "ytmiomafgfeofnaa", sum := "aec80d2ecfb8bac5d00f1597aa24a824e7e72d506c4708d561005edfb22899cf", func := "loop.example/graphviews/laws.FnExtendWorse", spec := "fnExtendWorse", unfollowed := true, recurses := true, apart := false, narrowed := true }
def FnExtendWorseUptoSaid : Prop := fnExtendWorseUptoRow.holds Try.pinned (OpenSpec.upto fnExtendWorseSpec)

/-- 'laws.FnBetterOf', WHERE WHAT IT READS IS OF BULK AT MOST 1048576: true; the input reads as it did. -/
def fnBetterOfUptoRow : OpenClaim := { program := "ytmiomafgfeofnaa", sum := "aec80d2ecfb8bac5d00f1597aa24a824e7e72d506c4708d561005edfb22899cf", func := "loop.example/graphviews/laws.FnBetterOf", spec := "fnBetterOf", unfollowed := true, recurses := true, apart := false, narrowed := true }
def FnBetterOfUptoSaid : Prop := fnBetterOfUptoRow.holds Try.pinned (OpenSpec.upto fnBetterOfSpec)

/-- 'laws.FnDistribute', WHERE WHAT IT READS IS OF BULK AT MOST 1048576: true; the input reads as it did. -/
def fnDistributeUptoRow : OpenClaim := { program := "ytmiomafgfeofnaa", sum := "aec80d2ecfb8bac5d00f1597aa24a824e7e72d506c4708d561005edfb22899cf", func := "loop.example/graphviews/laws.FnDistribute", spec := "fnDistribute", unfollowed := true, recurses := true, apart := false, narrowed := true }
def FnDistributeUptoSaid : Prop := fnDistributeUptoRow.holds Try.pinned (OpenSpec.upto fnDistributeSpec)

/-- 'laws.FnPathMeasure', WHERE WHAT IT READS IS OF BULK AT MOST 1048576: true; the input reads as it did. -/
def fnPathMeasureUptoRow : OpenClaim := { program := "ytmiomafgfeofnaa", sum := "aec80d2ecfb8bac5d00f1597aa24a824e7e72d506c4708d561005edfb22899cf", func := "loop.example/graphviews/laws.FnPathMeasure", spec := "fnPathMeasure", unfollowed := true, recurses := true, apart := false, narrowed := true }
def FnPathMeasureUptoSaid : Prop := fnPathMeasureUptoRow.holds Try.pinned (OpenSpec.upto fnPathMeasureSpec)

/-- 'laws.FnIsBetter', WHERE WHAT IT READS IS OF BULK AT MOST 1048576: true; the input reads as it did. -/
def fnIsBetterUptoRow : OpenClaim := { program := "ytmiomafgfeofnaa", sum := "aec80d2ecfb8bac5d00f1597aa24a824e7e72d506c4708d561005edfb22899cf", func := "loop.example/graphviews/laws.FnIsBetter", spec := "fnIsBetter", unfollowed := true, recurses := true, apart := false, narrowed := true }
def FnIsBetterUptoSaid : Prop := fnIsBetterUptoRow.holds Try.pinned (OpenSpec.upto fnIsBetterSpec)

/-- 'laws.FnNoPath', WHERE WHAT IT READS IS OF BULK AT MOST 1048576: true; the input reads as it did. -/
def fnNoPathUptoRow : OpenClaim := { program := "ytmiomafgfeofnaa", sum := "aec80d2ecfb8bac5d00f1597aa24a824e7e72d506c4708d561005edfb22899cf", func := "loop.example/graphviews/laws.FnNoPath", spec := "fnNoPath", unfollowed := true, recurses := true, apart := false, narrowed := true }
def FnNoPathUptoSaid : Prop := fnNoPathUptoRow.holds Try.pinned (OpenSpec.upto fnNoPathSpec)

/-- 'laws.FnEmptyPath', WHERE WHAT IT READS IS OF BULK AT MOST 1048576: true; the input reads as it did. -/
def fnEmptyPathUptoRow : OpenClaim := { program := "ytmiomafgfeofnaa", sum := "aec80d2ecfb8bac5d00f1597aa24a824e7e72d506c4708d561005edfb22899cf", func := "loop.example/graphviews/laws.FnEmptyPath", spec := "fnEmptyPath", unfollowed := true, recurses := true, apart := false, narrowed := true }
def FnEmptyPathUptoSaid : Prop := fnEmptyPathUptoRow.holds Try.pinned (OpenSpec.upto fnEmptyPathSpec)

/-- 'laws.FnEdgeMeasure', WHERE WHAT IT READS IS OF BULK AT MOST 1048576: true; the input reads as it did. -/
def fnEdgeMeasureUptoRow : OpenClaim := { program := "ytmiomafgfeofnaa", sum := "aec80d2ecfb8bac5d00f1597aa24a824e7e72d506c4708d561005edfb22899cf", func := "loop.example/graphviews/laws.FnEdgeMeasure", spec := "fnEdgeMeasure", unfollowed := true, recurses := true, apart := false, narrowed := true }
def FnEdgeMeasureUptoSaid : Prop := fnEdgeMeasureUptoRow.holds Try.pinned (OpenSpec.upto fnEdgeMeasureSpec)

/-- 'laws.FnBetterTrans', WHERE WHAT IT READS IS OF BULK AT MOST 1048576: true; the input reads as it did. -/
def fnBetterTransUptoRow : OpenClaim := { program := "ytmiomafgfeofnaa", sum := "aec80d2ecfb8bac5d00f1597aa24a824e7e72d506c4708d561005edfb22899cf", func := "loop.example/graphviews/laws.FnBetterTrans", spec := "fnBetterTrans", unfollowed := true, recurses := true, apart := false, narrowed := true }
def FnBetterTransUptoSaid : Prop := fnBetterTransUptoRow.holds Try.pinned (OpenSpec.upto fnBetterTransSpec)

/-- 'laws.FnPathOrder', WHERE WHAT IT READS IS OF BULK AT MOST 1048576: true; the input reads as it did. -/
def fnPathOrderUptoRow : OpenClaim := { program := "ytmiomafgfeofnaa", sum := "aec80d2ecfb8bac5d00f1597aa24a824e7e72d506c4708d561005edfb22899cf", func := "loop.example/graphviews/laws.FnPathOrder", spec := "fnPathOrder", unfollowed := true, recurses := true, apart := false, narrowed := true }
def FnPathOrderUptoSaid : Prop := fnPathOrderUptoRow.holds Try.pinned (OpenSpec.upto fnPathOrderSpec)

/-- 'laws.FnExactMeasureValid', WHERE WHAT IT READS IS OF BULK AT MOST 1048576: true; the input reads as it did. -/
def fnExactMeasureValidUptoRow : OpenClaim := { program := "ytmiomafgfeofnaa", sum := "aec80d2ecfb8bac5d00f1597aa24a824e7e72d506c4708d561005edfb22899cf", func := "loop.example/graphviews/laws.FnExactMeasureValid", spec := "fnExactMeasureValid", apart := false, narrowed := true }
def FnExactMeasureValidUptoSaid : Prop := fnExactMeasureValidUptoRow.holds Try.pinned (OpenSpec.upto fnExactMeasureValidSpec)

end Rows
end Go.Proofs.Ytmiomafgfeofnaa
