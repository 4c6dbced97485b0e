/-
  No cell of these rows narrows 'for every input' (looked for: loops, veiled, ifaces, maps, wideKeys, modest, calm, conditions, laid).
  DERIVED. THE GIVEN ROWS OF THIS SEAT. 10 by the template 'for every input the law returns true; each argument reads behind the call as it read before'; 0 by the template 'total and deterministic' (their statements: YtfciilpcjahfoaaTotals.lean).
  GIVEN WITH THE SEED: the statements are not yours to turn. If you find one false, say at which input.
  Laid BY PROGRAM, IN A SANDBOX (cutbox-rows.mjs): the forced cells as the released guide's own fill.sh prints them over the translation 1287ca502226d61d… (all of the seat's roots in one cut). By AI agents, Wed Nov 11 2026. No macro, syntax, notation, axiom, sorry.
-/
import Derived.Test.YtfciilpcjahfoaaChecked
import GoSem.Claim
import GoSem.ClaimJoined
import GoSem.ClaimMapViews
import Derived.JoinedTies
import Derived.KernelRfl
namespace Go.Proofs.Ytfciilpcjahfoaa
/- THE CELL 'sum', in the pinned program and in every row, IS THE sha256 OF THE DUMP (.gsa) THAT YtfciilpcjahfoaaProg.lean LOADS. Nothing in Lean hashes anything: it is a label: what it is worth is what the hold of that sum in a sandbox is worth. -/
noncomputable def Try.pinned : Pinned := { name := "ytfciilpcjahfoaa", sum := "1287ca502226d61d98ec21973f6c50ee159314ee9fcf87ada048bea7fea7d338", checked := Try.checked }
namespace Rows
def none {H : Type} : Left H := { results := [], args := [] }

/-- 'laws.FnCutEdge': WHATEVER THE INPUT: true; the input reads as it did. -/
def fnCutEdgeSpec : ChangeSpec := { name := "fnCutEdge", fn := fun _ => fun
  | [d] => { results := [.lit (.bool true)], args := [d] }
  | _ => none }
def fnCutEdgeRow : OpenClaim := { program := "ytfciilpcjahfoaa", sum := "1287ca502226d61d98ec21973f6c50ee159314ee9fcf87ada048bea7fea7d338", func := "loop.example/graphviews/laws.FnCutEdge", spec := "fnCutEdge", unfollowed := true, recurses := true, apart := false }
def FnCutEdgeSaid : Prop := fnCutEdgeRow.holds Try.pinned (OpenSpec.ofChange fnCutEdgeSpec)

/-- ITS FALSE NEIGHBOUR: 'it returns false'. Refute it at one input. -/
def fnCutEdgeWrong : ChangeSpec := { name := "fnCutEdge", fn := fun _ => fun
  | [d] => { results := [.lit (.bool false)], args := [d] }
  | _ => none }
def FnCutEdgeWrongFalsely : Prop := fnCutEdgeRow.holds Try.pinned (OpenSpec.ofChange fnCutEdgeWrong)

/-- 'laws.FnPutTwice': WHATEVER THE INPUT: true; the input reads as it did. -/
def fnPutTwiceSpec : ChangeSpec := { name := "fnPutTwice", fn := fun _ => fun
  | [d] => { results := [.lit (.bool true)], args := [d] }
  | _ => none }
def fnPutTwiceRow : OpenClaim := { program := "ytfciilpcjahfoaa", sum := "1287ca502226d61d98ec21973f6c50ee159314ee9fcf87ada048bea7fea7d338", func := "loop.example/graphviews/laws.FnPutTwice", spec := "fnPutTwice", unfollowed := true, recurses := true, apart := false }
def FnPutTwiceSaid : Prop := fnPutTwiceRow.holds Try.pinned (OpenSpec.ofChange fnPutTwiceSpec)

/-- ITS FALSE NEIGHBOUR: 'it returns false'. Refute it at one input. -/
def fnPutTwiceWrong : ChangeSpec := { name := "fnPutTwice", fn := fun _ => fun
  | [d] => { results := [.lit (.bool false)], args := [d] }
  | _ => none }
def FnPutTwiceWrongFalsely : Prop := fnPutTwiceRow.holds Try.pinned (OpenSpec.ofChange fnPutTwiceWrong)

/-- 'laws.FnPutOrder': WHATEVER THE INPUT: true; the input reads as it did. -/
def fnPutOrderSpec : ChangeSpec := { name := "fnPutOrder", fn := fun _ => fun
  | [d1, d2] => { results := [.lit (.bool true)], args := [d1, d2] }
  | _ => none }
def fnPutOrderRow : OpenClaim := { program := "ytfciilpcjahfoaa", sum := "1287ca502226d61d98ec21973f6c50ee159314ee9fcf87ada048bea7fea7d338", func := "loop.example/graphviews/laws.FnPutOrder", spec := "fnPutOrder", unfollowed := true, recurses := true, apart := false }
def FnPutOrderSaid : Prop := fnPutOrderRow.holds Try.pinned (OpenSpec.ofChange fnPutOrderSpec)

/-- ITS FALSE NEIGHBOUR: 'it returns false'. Refute it at one input. -/
def fnPutOrderWrong : ChangeSpec := { name := "fnPutOrder", fn := fun _ => fun
  | [d1, d2] => { results := [.lit (.bool false)], args := [d1, d2] }
  | _ => none }
def FnPutOrderWrongFalsely : Prop := fnPutOrderRow.holds Try.pinned (OpenSpec.ofChange fnPutOrderWrong)

/-- 'laws.FnReverseNext': WHATEVER THE INPUT: true; the input reads as it did. -/
def fnReverseNextSpec : ChangeSpec := { name := "fnReverseNext", fn := fun _ => fun
  | [d] => { results := [.lit (.bool true)], args := [d] }
  | _ => none }
def fnReverseNextRow : OpenClaim := { program := "ytfciilpcjahfoaa", sum := "1287ca502226d61d98ec21973f6c50ee159314ee9fcf87ada048bea7fea7d338", func := "loop.example/graphviews/laws.FnReverseNext", spec := "fnReverseNext", unfollowed := true, recurses := true, apart := false }
def FnReverseNextSaid : Prop := fnReverseNextRow.holds Try.pinned (OpenSpec.ofChange fnReverseNextSpec)

/-- ITS FALSE NEIGHBOUR: 'it returns false'. Refute it at one input. -/
def fnReverseNextWrong : ChangeSpec := { name := "fnReverseNext", fn := fun _ => fun
  | [d] => { results := [.lit (.bool false)], args := [d] }
  | _ => none }
def FnReverseNextWrongFalsely : Prop := fnReverseNextRow.holds Try.pinned (OpenSpec.ofChange fnReverseNextWrong)

/-- 'laws.FnViewValid': WHATEVER THE INPUT: true; the input reads as it did. -/
def fnViewValidSpec : ChangeSpec := { name := "fnViewValid", fn := fun _ => fun
  | [d] => { results := [.lit (.bool true)], args := [d] }
  | _ => none }
def fnViewValidRow : OpenClaim := { program := "ytfciilpcjahfoaa", sum := "1287ca502226d61d98ec21973f6c50ee159314ee9fcf87ada048bea7fea7d338", func := "loop.example/graphviews/laws.FnViewValid", spec := "fnViewValid", unfollowed := true, recurses := true, apart := false }
def FnViewValidSaid : Prop := fnViewValidRow.holds Try.pinned (OpenSpec.ofChange fnViewValidSpec)

/-- ITS FALSE NEIGHBOUR: 'it returns false'. Refute it at one input. -/
def fnViewValidWrong : ChangeSpec := { name := "fnViewValid", fn := fun _ => fun
  | [d] => { results := [.lit (.bool false)], args := [d] }
  | _ => none }
def FnViewValidWrongFalsely : Prop := fnViewValidRow.holds Try.pinned (OpenSpec.ofChange fnViewValidWrong)

/-- 'laws.FnViewSame': WHATEVER THE INPUT: true; the input reads as it did. -/
def fnViewSameSpec : ChangeSpec := { name := "fnViewSame", fn := fun _ => fun
  | [d] => { results := [.lit (.bool true)], args := [d] }
  | _ => none }
def fnViewSameRow : OpenClaim := { program := "ytfciilpcjahfoaa", sum := "1287ca502226d61d98ec21973f6c50ee159314ee9fcf87ada048bea7fea7d338", func := "loop.example/graphviews/laws.FnViewSame", spec := "fnViewSame", apart := false }
def FnViewSameSaid : Prop := fnViewSameRow.holds Try.pinned (OpenSpec.ofChange fnViewSameSpec)

/-- ITS FALSE NEIGHBOUR: 'it returns false'. Refute it at one input. -/
def fnViewSameWrong : ChangeSpec := { name := "fnViewSame", fn := fun _ => fun
  | [d] => { results := [.lit (.bool false)], args := [d] }
  | _ => none }
def FnViewSameWrongFalsely : Prop := fnViewSameRow.holds Try.pinned (OpenSpec.ofChange fnViewSameWrong)

/-- 'laws.FnReachedNodes': WHATEVER THE INPUT: true; the input reads as it did. -/
def fnReachedNodesSpec : ChangeSpec := { name := "fnReachedNodes", fn := fun _ => fun
  | [d] => { results := [.lit (.bool true)], args := [d] }
  | _ => none }
def fnReachedNodesRow : OpenClaim := { program := "ytfciilpcjahfoaa", sum := "1287ca502226d61d98ec21973f6c50ee159314ee9fcf87ada048bea7fea7d338", func := "loop.example/graphviews/laws.FnReachedNodes", spec := "fnReachedNodes", unfollowed := true, recurses := true, apart := false }
def FnReachedNodesSaid : Prop := fnReachedNodesRow.holds Try.pinned (OpenSpec.ofChange fnReachedNodesSpec)

/-- ITS FALSE NEIGHBOUR: 'it returns false'. Refute it at one input. -/
def fnReachedNodesWrong : ChangeSpec := { name := "fnReachedNodes", fn := fun _ => fun
  | [d] => { results := [.lit (.bool false)], args := [d] }
  | _ => none }
def FnReachedNodesWrongFalsely : Prop := fnReachedNodesRow.holds Try.pinned (OpenSpec.ofChange fnReachedNodesWrong)

/-- 'laws.FnViewBest': WHATEVER THE INPUT: true; the input reads as it did. -/
def fnViewBestSpec : ChangeSpec := { name := "fnViewBest", fn := fun _ => fun
  | [d] => { results := [.lit (.bool true)], args := [d] }
  | _ => none }
def fnViewBestRow : OpenClaim := { program := "ytfciilpcjahfoaa", sum := "1287ca502226d61d98ec21973f6c50ee159314ee9fcf87ada048bea7fea7d338", func := "loop.example/graphviews/laws.FnViewBest", spec := "fnViewBest", unfollowed := true, recurses := true, apart := false }
def FnViewBestSaid : Prop := fnViewBestRow.holds Try.pinned (OpenSpec.ofChange fnViewBestSpec)

/-- ITS FALSE NEIGHBOUR: 'it returns false'. Refute it at one input. -/
def fnViewBestWrong : ChangeSpec := { name := "fnViewBest", fn := fun _ => fun
  | [d] => { results := [.lit (.bool false)], args := [d] }
  | _ => none }
def FnViewBestWrongFalsely : Prop := fnViewBestRow.holds Try.pinned (OpenSpec.ofChange fnViewBestWrong)

/-- 'laws.FnRelaxAll': WHATEVER THE INPUT: true; the input reads as it did. -/
def fnRelaxAllSpec : ChangeSpec := { name := "fnRelaxAll", fn := fun _ => fun
  | [d] => { results := [.lit (.bool true)], args := [d] }
  | _ => none }
def fnRelaxAllRow : OpenClaim := { program := "ytfciilpcjahfoaa", sum := "1287ca502226d61d98ec21973f6c50ee159314ee9fcf87ada048bea7fea7d338", func := "loop.example/graphviews/laws.FnRelaxAll", spec := "fnRelaxAll", unfollowed := true, recurses := true, apart := false }
def FnRelaxAllSaid : Prop := fnRelaxAllRow.holds Try.pinned (OpenSpec.ofChange fnRelaxAllSpec)

/-- ITS FALSE NEIGHBOUR: 'it returns false'. Refute it at one input. -/
def fnRelaxAllWrong : ChangeSpec := { name := "fnRelaxAll", fn := fun _ => fun
  | [d] => { results := [.lit (.bool false)], args := [d] }
  | _ => none }
def FnRelaxAllWrongFalsely : Prop := fnRelaxAllRow.holds Try.pinned (OpenSpec.ofChange fnRelaxAllWrong)

/-- 'laws.FnReachedGrow': WHATEVER THE INPUT: true; the input reads as it did. -/
def fnReachedGrowSpec : ChangeSpec := { name := "fnReachedGrow", fn := fun _ => fun
  | [d] => { results := [.lit (.bool true)], args := [d] }
  | _ => none }
def fnReachedGrowRow : OpenClaim := { program := "ytfciilpcjahfoaa", sum := "1287ca502226d61d98ec21973f6c50ee159314ee9fcf87ada048bea7fea7d338", func := "loop.example/graphviews/laws.FnReachedGrow", spec := "fnReachedGrow", unfollowed := true, recurses := true, apart := false }
def FnReachedGrowSaid : Prop := fnReachedGrowRow.holds Try.pinned (OpenSpec.ofChange fnReachedGrowSpec)

/-- ITS FALSE NEIGHBOUR: 'it returns false'. Refute it at one input. -/
def fnReachedGrowWrong : ChangeSpec := { name := "fnReachedGrow", fn := fun _ => fun
  | [d] => { results := [.lit (.bool false)], args := [d] }
  | _ => none }
def FnReachedGrowWrongFalsely : Prop := fnReachedGrowRow.holds Try.pinned (OpenSpec.ofChange fnReachedGrowWrong)

/- THE SECOND FORM. 'bulk': how many values and letters a reading holds, each counted each time it is reached (what is shared counts as often as it is met; a slice's spare places count too). A statement '..UptoSaid' is the law's where the arguments, and the package variables that the reading takes, are together of bulk at most 1048576: NARROWER than '..Said'. Prove '..Said' where nothing that the law and all that it calls make is longer than what came in: it says more and counts as full. Else prove '..UptoSaid'. A law counts once. -/
mutual
def uptoBulk {H : Type} : DataW H → Nat
  | .lit (.string bytes) => bytes.length + 1
  | .lit _ => 1
  | .nil => 1
  | .ptr d => uptoBulk d + 1
  | .slice elems spare => uptoBulkAll elems + uptoBulkAll spare + 1
  | .agg parts => uptoBulkAll parts + 1
  | .iface _ d => uptoBulk d + 1
  | .map entries => uptoBulkEntries entries + 1
  | .held _ => 1
def uptoBulkAll {H : Type} : List (DataW H) → Nat
  | [] => 0
  | d :: r => uptoBulk d + uptoBulkAll r
def uptoBulkEntries {H : Type} : List (Lit × DataW H) → Nat
  | [] => 0
  | x :: r => uptoBulkEntry x + uptoBulkEntries r
def uptoBulkEntry {H : Type} : Lit × DataW H → Nat
  | (.string bytes, d) => bytes.length + uptoBulk d + 1
  | (_, d) => uptoBulk d + 1
 end
def uptoSmall : (H : Type) → List (DataW H) → Bool := fun _ ds => decide (uptoBulkAll ds ≤ 1048576)
def OpenSpec.upto (s : _root_.Go.ChangeSpec) : _root_.Go.OpenSpec := { _root_.Go.OpenSpec.ofChange s with cond := some uptoSmall }

/-- 'laws.FnCutEdge', WHERE WHAT IT READS IS OF BULK AT MOST 1048576: true; the input reads as it did. -/
def fnCutEdgeUptoRow : OpenClaim := { program := "ytfciilpcjahfoaa", sum := "1287ca502226d61d98ec21973f6c50ee159314ee9fcf87ada048bea7fea7d338", func := "loop.example/graphviews/laws.FnCutEdge", spec := "fnCutEdge", unfollowed := true, recurses := true, apart := false, narrowed := true }
def FnCutEdgeUptoSaid : Prop := fnCutEdgeUptoRow.holds Try.pinned (OpenSpec.upto fnCutEdgeSpec)

/-- 'laws.FnPutTwice', WHERE WHAT IT READS IS OF BULK AT MOST 1048576: true; the input reads as it did. -/
def fnPutTwiceUptoRow : OpenClaim := { program := "ytfciilpcjahfoaa", sum := "1287ca502226d61d98ec21973f6c50ee159314ee9fcf87ada048bea7fea7d338", func := "loop.example/graphviews/laws.FnPutTwice", spec := "fnPutTwice", unfollowed := true, recurses := true, apart := false, narrowed := true }
def FnPutTwiceUptoSaid : Prop := fnPutTwiceUptoRow.holds Try.pinned (OpenSpec.upto fnPutTwiceSpec)

/-- 'laws.FnPutOrder', WHERE WHAT IT READS IS OF BULK AT MOST 1048576: true; the input reads as it did. -/
def fnPutOrderUptoRow : OpenClaim := { program := "ytfciilpcjahfoaa", sum := "1287ca502226d61d98ec21973f6c50ee159314ee9fcf87ada048bea7fea7d338", func := "loop.example/graphviews/laws.FnPutOrder", spec := "fnPutOrder", unfollowed := true, recurses := true, apart := false, narrowed := true }
def FnPutOrderUptoSaid : Prop := fnPutOrderUptoRow.holds Try.pinned (OpenSpec.upto fnPutOrderSpec)

/-- 'laws.FnReverseNext', WHERE WHAT IT READS IS OF BULK AT MOST 1048576: true; the input reads as it did. -/
def fnReverseNextUptoRow : OpenClaim := { program := "ytfciilpcjahfoaa", sum := "1287ca502226d61d98ec21973f6c50ee159314ee9fcf87ada048bea7fea7d338", func := "loop.example/graphviews/laws.FnReverseNext", spec := "fnReverseNext", unfollowed := true, recurses := true, apart := false, narrowed := true }
def FnReverseNextUptoSaid : Prop := fnReverseNextUptoRow.holds Try.pinned (OpenSpec.upto fnReverseNextSpec)

/-- 'laws.FnViewValid', WHERE WHAT IT READS IS OF BULK AT MOST 1048576: true; the input reads as it did. -/
def fnViewValidUptoRow : OpenClaim := { program := "ytfciilpcjahfoaa", sum := "1287ca502226d61d98ec21973f6c50ee159314ee9fcf87ada048bea7fea7d338", func := "loop.example/graphviews/laws.FnViewValid", spec := "fnViewValid", unfollowed := true, recurses := true, apart := false, narrowed := true }
def FnViewValidUptoSaid : Prop := fnViewValidUptoRow.holds Try.pinned (OpenSpec.upto fnViewValidSpec)

/-- 'laws.FnViewSame', WHERE WHAT IT READS IS OF BULK AT MOST 1048576: true; the input reads as it did. -/
def fnViewSameUptoRow : OpenClaim := { program := "ytfciilpcjahfoaa", sum := "1287ca502226d61d98ec21973f6c50ee159314ee9fcf87ada048bea7fea7d338", func := "loop.example/graphviews/laws.FnViewSame", spec := "fnViewSame", apart := false, narrowed := true }
def FnViewSameUptoSaid : Prop := fnViewSameUptoRow.holds Try.pinned (OpenSpec.upto fnViewSameSpec)

/-- 'laws.FnReachedNodes', WHERE WHAT IT READS IS OF BULK AT MOST 1048576: true; the input reads as it did. -/
def fnReachedNodesUptoRow : OpenClaim := { program := "ytfciilpcjahfoaa", sum := "1287ca502226d61d98ec21973f6c50ee159314ee9fcf87ada048bea7fea7d338", func := "loop.example/graphviews/laws.FnReachedNodes", spec := "fnReachedNodes", unfollowed := true, recurses := true, apart := false, narrowed := true }
def FnReachedNodesUptoSaid : Prop := fnReachedNodesUptoRow.holds Try.pinned (OpenSpec.upto fnReachedNodesSpec)

/-- 'laws.FnViewBest', WHERE WHAT IT READS IS OF BULK AT MOST 1048576: true; the input reads as it did. -/
def fnViewBestUptoRow : OpenClaim := { program := "ytfciilpcjahfoaa", sum := "1287ca502226d61d98ec21973f6c50ee159314ee9fcf87ada048bea7fea7d338", func := "loop.example/graphviews/laws.FnViewBest", spec := "fnViewBest", unfollowed := true, recurses := true, apart := false, narrowed := true }
def FnViewBestUptoSaid : Prop := fnViewBestUptoRow.holds Try.pinned (OpenSpec.upto fnViewBestSpec)

/-- 'laws.FnRelaxAll', WHERE WHAT IT READS IS OF BULK AT MOST 1048576: true; the input reads as it did. -/
def fnRelaxAllUptoRow : OpenClaim := { program := "ytfciilpcjahfoaa", sum := "1287ca502226d61d98ec21973f6c50ee159314ee9fcf87ada048bea7fea7d338", func := "loop.example/graphviews/laws.FnRelaxAll", spec := "fnRelaxAll", unfollowed := true, recurses := true, apart := false, narrowed := true }
def FnRelaxAllUptoSaid : Prop := fnRelaxAllUptoRow.holds Try.pinned (OpenSpec.upto fnRelaxAllSpec)

/-- 'laws.FnReachedGrow', WHERE WHAT IT READS IS OF BULK AT MOST 1048576: true; the input reads as it did. -/
def fnReachedGrowUptoRow : OpenClaim := { program := "ytfciilpcjahfoaa", sum := "1287ca502226d61d98ec21973f6c50ee159314ee9fcf87ada048bea7fea7d338", func := "loop.example/graphviews/laws.FnReachedGrow", spec := "fnReachedGrow", unfollowed := true, recurses := true, apart := false, narrowed := true }
def FnReachedGrowUptoSaid : Prop := fnReachedGrowUptoRow.holds Try.pinned (OpenSpec.upto fnReachedGrowSpec)

end Rows
end Go.Proofs.Ytfciilpcjahfoaa
