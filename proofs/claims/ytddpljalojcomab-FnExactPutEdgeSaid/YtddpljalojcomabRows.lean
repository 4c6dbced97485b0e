/-
  No cell of these rows narrows 'for every input' (looked for: loops, veiled, ifaces, maps, wideKeys, modest, calm, conditions, laid).
  DERIVED. THE GIVEN ROWS OF THIS SEAT. 4 by the template 'for every input the law returns true; each argument reads behind the call as it read before'; 0 by the template 'total and deterministic' (their statements: YtddpljalojcomabTotals.lean).
  GIVEN WITH THE SEED: the statements are not yours to turn. If you find one false, say at which input.
  Laid BY PROGRAM, IN A SANDBOX (cutbox-rows.mjs): the forced cells as the released guide's own fill.sh prints them over the translation 68e09726cd3d83ee… (all of the seat's roots in one cut). By AI agents, Wed Nov 11 2026. No macro, syntax, notation, axiom, sorry.
-/
import Derived.Test.YtddpljalojcomabChecked
import GoSem.Claim
import GoSem.ClaimJoined
import GoSem.ClaimMapViews
import Derived.JoinedTies
import Derived.KernelRfl
namespace Go.Proofs.Ytddpljalojcomab
/- THE CELL 'sum', in the pinned program and in every row, IS THE sha256 OF THE DUMP (.gsa) THAT YtddpljalojcomabProg.lean LOADS. Nothing in Lean hashes anything: it is a label: what it is worth is what the hold of that sum in a sandbox is worth. -/
noncomputable def Try.pinned : Pinned := { name := "ytddpljalojcomab", sum := "68e09726cd3d83ee1f89685254d9994bdf2bbdbcb5894a26f188c00382736455", checked := Try.checked }
namespace Rows
def none {H : Type} : Left H := { results := [], args := [] }

/-- 'laws.FnExactPutEdge': WHATEVER THE INPUT: true; the input reads as it did. -/
def fnExactPutEdgeSpec : ChangeSpec := { name := "fnExactPutEdge", fn := fun _ => fun
  | [d1, d2] => { results := [.lit (.bool true)], args := [d1, d2] }
  | _ => none }
def fnExactPutEdgeRow : OpenClaim := { program := "ytddpljalojcomab", sum := "68e09726cd3d83ee1f89685254d9994bdf2bbdbcb5894a26f188c00382736455", func := "loop.example/graphviews/laws.FnExactPutEdge", spec := "fnExactPutEdge", unfollowed := true, recurses := true, apart := false }
def FnExactPutEdgeSaid : Prop := fnExactPutEdgeRow.holds Try.pinned (OpenSpec.ofChange fnExactPutEdgeSpec)

/-- ITS FALSE NEIGHBOUR: 'it returns false'. Refute it at one input. -/
def fnExactPutEdgeWrong : ChangeSpec := { name := "fnExactPutEdge", fn := fun _ => fun
  | [d1, d2] => { results := [.lit (.bool false)], args := [d1, d2] }
  | _ => none }
def FnExactPutEdgeWrongFalsely : Prop := fnExactPutEdgeRow.holds Try.pinned (OpenSpec.ofChange fnExactPutEdgeWrong)

/-- 'laws.FnCutEdge': WHATEVER THE INPUT: true; the input reads as it did. -/
def fnCutEdgeSpec : ChangeSpec := { name := "fnCutEdge", fn := fun _ => fun
  | [d] => { results := [.lit (.bool true)], args := [d] }
  | _ => none }
def fnCutEdgeRow : OpenClaim := { program := "ytddpljalojcomab", sum := "68e09726cd3d83ee1f89685254d9994bdf2bbdbcb5894a26f188c00382736455", func := "loop.example/graphviews/laws.FnCutEdge", spec := "fnCutEdge", unfollowed := true, recurses := true, apart := false }
def FnCutEdgeSaid : Prop := fnCutEdgeRow.holds Try.pinned (OpenSpec.ofChange fnCutEdgeSpec)

/-- ITS FALSE NEIGHBOUR: 'it returns false'. Refute it at one input. -/
def fnCutEdgeWrong : ChangeSpec := { name := "fnCutEdge", fn := fun _ => fun
  | [d] => { results := [.lit (.bool false)], args := [d] }
  | _ => none }
def FnCutEdgeWrongFalsely : Prop := fnCutEdgeRow.holds Try.pinned (OpenSpec.ofChange fnCutEdgeWrong)

/-- 'laws.FnPutTwice': WHATEVER THE INPUT: true; the input reads as it did. -/
def fnPutTwiceSpec : ChangeSpec := { name := "fnPutTwice", fn := fun _ => fun
  | [d] => { results := [.lit (.bool true)], args := [d] }
  | _ => none }
def fnPutTwiceRow : OpenClaim := { program := "ytddpljalojcomab", sum := "68e09726cd3d83ee1f89685254d9994bdf2bbdbcb5894a26f188c00382736455", func := "loop.example/graphviews/laws.FnPutTwice", spec := "fnPutTwice", unfollowed := true, recurses := true, apart := false }
def FnPutTwiceSaid : Prop := fnPutTwiceRow.holds Try.pinned (OpenSpec.ofChange fnPutTwiceSpec)

/-- ITS FALSE NEIGHBOUR: 'it returns false'. Refute it at one input. -/
def fnPutTwiceWrong : ChangeSpec := { name := "fnPutTwice", fn := fun _ => fun
  | [d] => { results := [.lit (.bool false)], args := [d] }
  | _ => none }
def FnPutTwiceWrongFalsely : Prop := fnPutTwiceRow.holds Try.pinned (OpenSpec.ofChange fnPutTwiceWrong)

/-- 'laws.FnPutOrder': WHATEVER THE INPUT: true; the input reads as it did. -/
def fnPutOrderSpec : ChangeSpec := { name := "fnPutOrder", fn := fun _ => fun
  | [d1, d2] => { results := [.lit (.bool true)], args := [d1, d2] }
  | _ => none }
def fnPutOrderRow : OpenClaim := { program := "ytddpljalojcomab", sum := "68e09726cd3d83ee1f89685254d9994bdf2bbdbcb5894a26f188c00382736455", func := "loop.example/graphviews/laws.FnPutOrder", spec := "fnPutOrder", unfollowed := true, recurses := true, apart := false }
def FnPutOrderSaid : Prop := fnPutOrderRow.holds Try.pinned (OpenSpec.ofChange fnPutOrderSpec)

/-- ITS FALSE NEIGHBOUR: 'it returns false'. Refute it at one input. -/
def fnPutOrderWrong : ChangeSpec := { name := "fnPutOrder", fn := fun _ => fun
  | [d1, d2] => { results := [.lit (.bool false)], args := [d1, d2] }
  | _ => none }
def FnPutOrderWrongFalsely : Prop := fnPutOrderRow.holds Try.pinned (OpenSpec.ofChange fnPutOrderWrong)

/- THE SECOND FORM. 'bulk': how many values and letters a reading holds, each counted each time it is reached (what is shared counts as often as it is met; a slice's spare places count too). A statement '..UptoSaid' is the law's where the arguments, and the package variables that the reading takes, are together of bulk at most 1048576: NARROWER than '..Said'. Prove '..Said' where nothing that the law and all that it calls make is longer than what came in: it says more and counts as full. Else prove '..UptoSaid'. A law counts once. -/
mutual
def uptoBulk {H : Type} : DataW H → Nat
  | .lit (.string bytes) => bytes.length + 1
  | .lit _ => 1
  | .nil => 1
  | .ptr d => uptoBulk d + 1
  | .slice elems spare => uptoBulkAll elems + uptoBulkAll spare + 1
  | .agg parts => uptoBulkAll parts + 1
  | .iface _ d => uptoBulk d + 1
  | .map entries => uptoBulkEntries entries + 1
  | .held _ => 1
def uptoBulkAll {H : Type} : List (DataW H) → Nat
  | [] => 0
  | d :: r => uptoBulk d + uptoBulkAll r
def uptoBulkEntries {H : Type} : List (Lit × DataW H) → Nat
  | [] => 0
  | x :: r => uptoBulkEntry x + uptoBulkEntries r
def uptoBulkEntry {H : Type} : Lit × DataW H → Nat
  | (.string bytes, d) => bytes.length + uptoBulk d + 1
  | (_, d) => uptoBulk d + 1
 end
def uptoSmall : (H : Type) → List (DataW H) → Bool := fun _ ds => decide (uptoBulkAll ds ≤ 1048576)
def OpenSpec.upto (s : _root_.Go.ChangeSpec) : _root_.Go.OpenSpec := { _root_.Go.OpenSpec.ofChange s with cond := some uptoSmall }

/-- 'laws.FnExactPutEdge', WHERE WHAT IT READS IS OF BULK AT MOST 1048576: true; the input reads as it did. -/
def fnExactPutEdgeUptoRow : OpenClaim := { program := "ytddpljalojcomab", sum := "68e09726cd3d83ee1f89685254d9994bdf2bbdbcb5894a26f188c00382736455", func := "loop.example/graphviews/laws.FnExactPutEdge", spec := "fnExactPutEdge", unfollowed := true, recurses := true, apart := false, narrowed := true }
def FnExactPutEdgeUptoSaid : Prop := fnExactPutEdgeUptoRow.holds Try.pinned (OpenSpec.upto fnExactPutEdgeSpec)

/-- 'laws.FnCutEdge', WHERE WHAT IT READS IS OF BULK AT MOST 1048576: true; the input reads as it did. -/
def fnCutEdgeUptoRow : OpenClaim := { program := "ytddpljalojcomab", sum := "68e09726cd3d83ee1f89685254d9994bdf2bbdbcb5894a26f188c00382736455", func := "loop.example/graphviews/laws.FnCutEdge", spec := "fnCutEdge", unfollowed := true, recurses := true, apart := false, narrowed := true }
def FnCutEdgeUptoSaid : Prop := fnCutEdgeUptoRow.holds Try.pinned (OpenSpec.upto fnCutEdgeSpec)

/-- 'laws.FnPutTwice', WHERE WHAT IT READS IS OF BULK AT MOST 1048576: true; the input reads as it did. -/
def fnPutTwiceUptoRow : OpenClaim := { program := "ytddpljalojcomab", sum := "68e09726cd3d83ee1f89685254d9994bdf2bbdbcb5894a26f188c00382736455", func := "loop.example/graphviews/laws.FnPutTwice", spec := "fnPutTwice", unfollowed := true, recurses := true, apart := false, narrowed := true }
def FnPutTwiceUptoSaid : Prop := fnPutTwiceUptoRow.holds Try.pinned (OpenSpec.upto fnPutTwiceSpec)

/-- 'laws.FnPutOrder', WHERE WHAT IT READS IS OF BULK AT MOST 1048576: true; the input reads as it did. -/
def fnPutOrderUptoRow : OpenClaim := { program := "ytddpljalojcomab", sum := "68e09726cd3d83ee1f89685254d9994bdf2bbdbcb5894a26f188c00382736455", func := "loop.example/graphviews/laws.FnPutOrder", spec := "fnPutOrder", unfollowed := true, recurses := true, apart := false, narrowed := true }
def FnPutOrderUptoSaid : Prop := fnPutOrderUptoRow.holds Try.pinned (OpenSpec.upto fnPutOrderSpec)

end Rows
end Go.Proofs.Ytddpljalojcomab
