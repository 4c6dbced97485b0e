/-
  No cell of these rows narrows 'for every input' (looked for: loops, veiled, ifaces, maps, wideKeys, modest, calm, conditions, laid).
  DERIVED. THE GIVEN ROWS OF THIS SEAT. 8 by the template 'for every input the law returns true; each argument reads behind the call as it read before'; 0 by the template 'total and deterministic' (their statements: YtaoecegnjhbagaaTotals.lean).
  GIVEN WITH THE SEED: the statements are not yours to turn. If you find one false, say at which input.
  Laid BY PROGRAM, IN A SANDBOX (cutbox-rows.mjs): the forced cells as the released guide's own fill.sh prints them over the translation 2c7d1812f0624e59… (all of the seat's roots in one cut). By AI agents, Wed Nov 11 2026. No macro, syntax, notation, axiom, sorry.
-/
import Derived.Test.YtaoecegnjhbagaaChecked
import GoSem.Claim
import GoSem.ClaimJoined
import GoSem.ClaimMapViews
import Derived.JoinedTies
import Derived.KernelRfl
namespace Go.Proofs.Ytaoecegnjhbagaa
/- THE CELL 'sum', in the pinned program and in every row, IS THE sha256 OF THE DUMP (.gsa) THAT YtaoecegnjhbagaaProg.lean LOADS. Nothing in Lean hashes anything: it is a label: what it is worth is what the hold of that sum in a sandbox is worth. -/
noncomputable def Try.pinned : Pinned := { name := "ytaoecegnjhbagaa", sum := "2c7d1812f0624e59efc02761c54bc2b2de5fd64b88556d415c77e5b956723de9", checked := Try.checked }
namespace Rows
def none {H : Type} : Left H := { results := [], args := [] }

/-- 'laws.FnViewOf': WHATEVER THE INPUT: true; the input reads as it did. -/
def fnViewOfSpec : ChangeSpec := { name := "fnViewOf", fn := fun _ => fun
  | [d] => { results := [.lit (.bool true)], args := [d] }
  | _ => none }
def fnViewOfRow : OpenClaim := { program := "ytaoecegnjhbagaa", sum := "2c7d1812f0624e59efc02761c54bc2b2de5fd64b88556d415c77e5b956723de9", func := "loop.example/graphviews/laws.FnViewOf", spec := "fnViewOf", unfollowed := true, recurses := true, apart := false }
def FnViewOfSaid : Prop := fnViewOfRow.holds Try.pinned (OpenSpec.ofChange fnViewOfSpec)

/-- ITS FALSE NEIGHBOUR: 'it returns false'. Refute it at one input. -/
def fnViewOfWrong : ChangeSpec := { name := "fnViewOf", fn := fun _ => fun
  | [d] => { results := [.lit (.bool false)], args := [d] }
  | _ => none }
def FnViewOfWrongFalsely : Prop := fnViewOfRow.holds Try.pinned (OpenSpec.ofChange fnViewOfWrong)

/-- 'laws.FnViewTriangle': WHATEVER THE INPUT: true; the input reads as it did. -/
def fnViewTriangleSpec : ChangeSpec := { name := "fnViewTriangle", fn := fun _ => fun
  | [d1, d2] => { results := [.lit (.bool true)], args := [d1, d2] }
  | _ => none }
def fnViewTriangleRow : OpenClaim := { program := "ytaoecegnjhbagaa", sum := "2c7d1812f0624e59efc02761c54bc2b2de5fd64b88556d415c77e5b956723de9", func := "loop.example/graphviews/laws.FnViewTriangle", spec := "fnViewTriangle", unfollowed := true, recurses := true, apart := false }
def FnViewTriangleSaid : Prop := fnViewTriangleRow.holds Try.pinned (OpenSpec.ofChange fnViewTriangleSpec)

/-- ITS FALSE NEIGHBOUR: 'it returns false'. Refute it at one input. -/
def fnViewTriangleWrong : ChangeSpec := { name := "fnViewTriangle", fn := fun _ => fun
  | [d1, d2] => { results := [.lit (.bool false)], args := [d1, d2] }
  | _ => none }
def FnViewTriangleWrongFalsely : Prop := fnViewTriangleRow.holds Try.pinned (OpenSpec.ofChange fnViewTriangleWrong)

/-- 'laws.FnRoundsOf': WHATEVER THE INPUT: true; the input reads as it did. -/
def fnRoundsOfSpec : ChangeSpec := { name := "fnRoundsOf", fn := fun _ => fun
  | [d] => { results := [.lit (.bool true)], args := [d] }
  | _ => none }
def fnRoundsOfRow : OpenClaim := { program := "ytaoecegnjhbagaa", sum := "2c7d1812f0624e59efc02761c54bc2b2de5fd64b88556d415c77e5b956723de9", func := "loop.example/graphviews/laws.FnRoundsOf", spec := "fnRoundsOf", unfollowed := true, recurses := true, apart := false }
def FnRoundsOfSaid : Prop := fnRoundsOfRow.holds Try.pinned (OpenSpec.ofChange fnRoundsOfSpec)

/-- ITS FALSE NEIGHBOUR: 'it returns false'. Refute it at one input. -/
def fnRoundsOfWrong : ChangeSpec := { name := "fnRoundsOf", fn := fun _ => fun
  | [d] => { results := [.lit (.bool false)], args := [d] }
  | _ => none }
def FnRoundsOfWrongFalsely : Prop := fnRoundsOfRow.holds Try.pinned (OpenSpec.ofChange fnRoundsOfWrong)

/-- 'laws.FnBestWalk': WHATEVER THE INPUT: true; the input reads as it did. -/
def fnBestWalkSpec : ChangeSpec := { name := "fnBestWalk", fn := fun _ => fun
  | [d] => { results := [.lit (.bool true)], args := [d] }
  | _ => none }
def fnBestWalkRow : OpenClaim := { program := "ytaoecegnjhbagaa", sum := "2c7d1812f0624e59efc02761c54bc2b2de5fd64b88556d415c77e5b956723de9", func := "loop.example/graphviews/laws.FnBestWalk", spec := "fnBestWalk", unfollowed := true, recurses := true, apart := false }
def FnBestWalkSaid : Prop := fnBestWalkRow.holds Try.pinned (OpenSpec.ofChange fnBestWalkSpec)

/-- ITS FALSE NEIGHBOUR: 'it returns false'. Refute it at one input. -/
def fnBestWalkWrong : ChangeSpec := { name := "fnBestWalk", fn := fun _ => fun
  | [d] => { results := [.lit (.bool false)], args := [d] }
  | _ => none }
def FnBestWalkWrongFalsely : Prop := fnBestWalkRow.holds Try.pinned (OpenSpec.ofChange fnBestWalkWrong)

/-- 'laws.FnViewMore': WHATEVER THE INPUT: true; the input reads as it did. -/
def fnViewMoreSpec : ChangeSpec := { name := "fnViewMore", fn := fun _ => fun
  | [d1, d2] => { results := [.lit (.bool true)], args := [d1, d2] }
  | _ => none }
def fnViewMoreRow : OpenClaim := { program := "ytaoecegnjhbagaa", sum := "2c7d1812f0624e59efc02761c54bc2b2de5fd64b88556d415c77e5b956723de9", func := "loop.example/graphviews/laws.FnViewMore", spec := "fnViewMore", unfollowed := true, recurses := true, apart := false }
def FnViewMoreSaid : Prop := fnViewMoreRow.holds Try.pinned (OpenSpec.ofChange fnViewMoreSpec)

/-- ITS FALSE NEIGHBOUR: 'it returns false'. Refute it at one input. -/
def fnViewMoreWrong : ChangeSpec := { name := "fnViewMore", fn := fun _ => fun
  | [d1, d2] => { results := [.lit (.bool false)], args := [d1, d2] }
  | _ => none }
def FnViewMoreWrongFalsely : Prop := fnViewMoreRow.holds Try.pinned (OpenSpec.ofChange fnViewMoreWrong)

/-- 'laws.FnViewReverse': WHATEVER THE INPUT: true; the input reads as it did. -/
def fnViewReverseSpec : ChangeSpec := { name := "fnViewReverse", fn := fun _ => fun
  | [d] => { results := [.lit (.bool true)], args := [d] }
  | _ => none }
def fnViewReverseRow : OpenClaim := { program := "ytaoecegnjhbagaa", sum := "2c7d1812f0624e59efc02761c54bc2b2de5fd64b88556d415c77e5b956723de9", func := "loop.example/graphviews/laws.FnViewReverse", spec := "fnViewReverse", unfollowed := true, recurses := true, apart := false }
def FnViewReverseSaid : Prop := fnViewReverseRow.holds Try.pinned (OpenSpec.ofChange fnViewReverseSpec)

/-- ITS FALSE NEIGHBOUR: 'it returns false'. Refute it at one input. -/
def fnViewReverseWrong : ChangeSpec := { name := "fnViewReverse", fn := fun _ => fun
  | [d] => { results := [.lit (.bool false)], args := [d] }
  | _ => none }
def FnViewReverseWrongFalsely : Prop := fnViewReverseRow.holds Try.pinned (OpenSpec.ofChange fnViewReverseWrong)

/-- 'laws.FnMeetInMiddle': WHATEVER THE INPUT: true; the input reads as it did. -/
def fnMeetInMiddleSpec : ChangeSpec := { name := "fnMeetInMiddle", fn := fun _ => fun
  | [d] => { results := [.lit (.bool true)], args := [d] }
  | _ => none }
def fnMeetInMiddleRow : OpenClaim := { program := "ytaoecegnjhbagaa", sum := "2c7d1812f0624e59efc02761c54bc2b2de5fd64b88556d415c77e5b956723de9", func := "loop.example/graphviews/laws.FnMeetInMiddle", spec := "fnMeetInMiddle", unfollowed := true, recurses := true, apart := false }
def FnMeetInMiddleSaid : Prop := fnMeetInMiddleRow.holds Try.pinned (OpenSpec.ofChange fnMeetInMiddleSpec)

/-- ITS FALSE NEIGHBOUR: 'it returns false'. Refute it at one input. -/
def fnMeetInMiddleWrong : ChangeSpec := { name := "fnMeetInMiddle", fn := fun _ => fun
  | [d] => { results := [.lit (.bool false)], args := [d] }
  | _ => none }
def FnMeetInMiddleWrongFalsely : Prop := fnMeetInMiddleRow.holds Try.pinned (OpenSpec.ofChange fnMeetInMiddleWrong)

/-- 'laws.FnMeetSelf': WHATEVER THE INPUT: true; the input reads as it did. -/
def fnMeetSelfSpec : ChangeSpec := { name := "fnMeetSelf", fn := fun _ => fun
  | [d] => { results := [.lit (.bool true)], args := [d] }
  | _ => none }
def fnMeetSelfRow : OpenClaim := { program := "ytaoecegnjhbagaa", sum := "2c7d1812f0624e59efc02761c54bc2b2de5fd64b88556d415c77e5b956723de9", func := "loop.example/graphviews/laws.FnMeetSelf", spec := "fnMeetSelf", unfollowed := true, recurses := true, apart := false }
def FnMeetSelfSaid : Prop := fnMeetSelfRow.holds Try.pinned (OpenSpec.ofChange fnMeetSelfSpec)

/-- ITS FALSE NEIGHBOUR: 'it returns false'. Refute it at one input. -/
def fnMeetSelfWrong : ChangeSpec := { name := "fnMeetSelf", fn := fun _ => fun
  | [d] => { results := [.lit (.bool false)], args := [d] }
  | _ => none }
def FnMeetSelfWrongFalsely : Prop := fnMeetSelfRow.holds Try.pinned (OpenSpec.ofChange fnMeetSelfWrong)

/- THE SECOND FORM. 'bulk': how many values and letters a reading holds, each counted each time it is reached (what is shared counts as often as it is met; a slice's spare places count too). A statement '..UptoSaid' is the law's where the arguments, and the package variables that the reading takes, are together of bulk at most 1048576: NARROWER than '..Said'. Prove '..Said' where nothing that the law and all that it calls make is longer than what came in: it says more and counts as full. Else prove '..UptoSaid'. A law counts once. -/
mutual
def uptoBulk {H : Type} : DataW H → Nat
  | .lit (.string bytes) => bytes.length + 1
  | .lit _ => 1
  | .nil => 1
  | .ptr d => uptoBulk d + 1
  | .slice elems spare => uptoBulkAll elems + uptoBulkAll spare + 1
  | .agg parts => uptoBulkAll parts + 1
  | .iface _ d => uptoBulk d + 1
  | .map entries => uptoBulkEntries entries + 1
  | .held _ => 1
def uptoBulkAll {H : Type} : List (DataW H) → Nat
  | [] => 0
  | d :: r => uptoBulk d + uptoBulkAll r
def uptoBulkEntries {H : Type} : List (Lit × DataW H) → Nat
  | [] => 0
  | x :: r => uptoBulkEntry x + uptoBulkEntries r
def uptoBulkEntry {H : Type} : Lit × DataW H → Nat
  | (.string bytes, d) => bytes.length + uptoBulk d + 1
  | (_, d) => uptoBulk d + 1
 end
def uptoSmall : (H : Type) → List (DataW H) → Bool := fun _ ds => decide (uptoBulkAll ds ≤ 1048576)
def OpenSpec.upto (s : _root_.Go.ChangeSpec) : _root_.Go.OpenSpec := { _root_.Go.OpenSpec.ofChange s with cond := some uptoSmall }

/-- 'laws.FnViewOf', WHERE WHAT IT READS IS OF BULK AT MOST 1048576: true; the input reads as it did. -/
def fnViewOfUptoRow : OpenClaim := { program := "ytaoecegnjhbagaa", sum := "2c7d1812f0624e59efc02761c54bc2b2de5fd64b88556d415c77e5b956723de9", func := "loop.example/graphviews/laws.FnViewOf", spec := "fnViewOf", unfollowed := true, recurses := true, apart := false, narrowed := true }
def FnViewOfUptoSaid : Prop := fnViewOfUptoRow.holds Try.pinned (OpenSpec.upto fnViewOfSpec)

/-- 'laws.FnViewTriangle', WHERE WHAT IT READS IS OF BULK AT MOST 1048576: true; the input reads as it did. -/
def fnViewTriangleUptoRow : OpenClaim := { program := "ytaoecegnjhbagaa", sum := "2c7d1812f0624e59efc02761c54bc2b2de5fd64b88556d415c77e5b956723de9", func := "loop.example/graphviews/laws.FnViewTriangle", spec := "fnViewTriangle", unfollowed := true, recurses := true, apart := false, narrowed := true }
def FnViewTriangleUptoSaid : Prop := fnViewTriangleUptoRow.holds Try.pinned (OpenSpec.upto fnViewTriangleSpec)

/-- 'laws.FnRoundsOf', WHERE WHAT IT READS IS OF BULK AT MOST 1048576: true; the input reads as it did. -/
def fnRoundsOfUptoRow : OpenClaim := { program := "ytaoecegnjhbagaa", sum := "2c7d1812f0624e59efc02761c54bc2b2de5fd64b88556d415c77e5b956723de9", func := "loop.example/graphviews/laws.FnRoundsOf", spec := "fnRoundsOf", unfollowed := true, recurses := true, apart := false, narrowed := true }
def FnRoundsOfUptoSaid : Prop := fnRoundsOfUptoRow.holds Try.pinned (OpenSpec.upto fnRoundsOfSpec)

/-- 'laws.FnBestWalk', WHERE WHAT IT READS IS OF BULK AT MOST 1048576: true; the input reads as it did. -/
def fnBestWalkUptoRow : OpenClaim := { program := "ytaoecegnjhbagaa", sum := "2c7d1812f0624e59efc02761c54bc2b2de5fd64b88556d415c77e5b956723de9", func := "loop.example/graphviews/laws.FnBestWalk", spec := "fnBestWalk", unfollowed := true, recurses := true, apart := false, narrowed := true }
def FnBestWalkUptoSaid : Prop := fnBestWalkUptoRow.holds Try.pinned (OpenSpec.upto fnBestWalkSpec)

/-- 'laws.FnViewMore', WHERE WHAT IT READS IS OF BULK AT MOST 1048576: true; the input reads as it did. -/
def fnViewMoreUptoRow : OpenClaim := { program := "ytaoecegnjhbagaa", sum := "2c7d1812f0624e59efc02761c54bc2b2de5fd64b88556d415c77e5b956723de9", func := "loop.example/graphviews/laws.FnViewMore", spec := "fnViewMore", unfollowed := true, recurses := true, apart := false, narrowed := true }
def FnViewMoreUptoSaid : Prop := fnViewMoreUptoRow.holds Try.pinned (OpenSpec.upto fnViewMoreSpec)

/-- 'laws.FnViewReverse', WHERE WHAT IT READS IS OF BULK AT MOST 1048576: true; the input reads as it did. -/
def fnViewReverseUptoRow : OpenClaim := { program := "ytaoecegnjhbagaa", sum := "2c7d1812f0624e59efc02761c54bc2b2de5fd64b88556d415c77e5b956723de9", func := "loop.example/graphviews/laws.FnViewReverse", spec := "fnViewReverse", unfollowed := true, recurses := true, apart := false, narrowed := true }
def FnViewReverseUptoSaid : Prop := fnViewReverseUptoRow.holds Try.pinned (OpenSpec.upto fnViewReverseSpec)

/-- 'laws.FnMeetInMiddle', WHERE WHAT IT READS IS OF BULK AT MOST 1048576: true; the input reads as it did. -/
def fnMeetInMiddleUptoRow : OpenClaim := { program := "ytaoecegnjhbagaa", sum := "2c7d1812f0624e59efc02761c54bc2b2de5fd64b88556d415c77e5b956723de9", func := "loop.example/graphviews/laws.FnMeetInMiddle", spec := "fnMeetInMiddle", unfollowed := true, recurses := true, apart := false, narrowed := true }
def FnMeetInMiddleUptoSaid : Prop := fnMeetInMiddleUptoRow.holds Try.pinned (OpenSpec.upto fnMeetInMiddleSpec)

/-- 'laws.FnMeetSelf', WHERE WHAT IT READS IS OF BULK AT MOST 1048576: true; the input reads as it did. -/
def fnMeetSelfUptoRow : OpenClaim := { program := "ytaoecegnjhbagaa", sum := "2c7d1812f0624e59efc02761c54bc2b2de5fd64b88556d415c77e5b956723de9", func := "loop.example/graphviews/laws.FnMeetSelf", spec := "fnMeetSelf", unfollowed := true, recurses := true, apart := false, narrowed := true }
def FnMeetSelfUptoSaid : Prop := fnMeetSelfUptoRow.holds Try.pinned (OpenSpec.upto fnMeetSelfSpec)

end Rows
end Go.Proofs.Ytaoecegnjhbagaa
