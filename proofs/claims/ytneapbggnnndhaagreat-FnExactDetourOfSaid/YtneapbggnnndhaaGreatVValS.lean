/- Is a view one of a graph: in the program. Is a view one of a graph: in the model. -/
import Derived.Test.YtneapbggnnndhaaGreatImpl
import Derived.Test.YtneapbggnnndhaaGreatGraph3
import Derived.Test.YtneapbggnnndhaaGreatRowAt
import Derived.Test.YtneapbggnnndhaaGreatVEdges
import Derived.Test.YtneapbggnnndhaaGreatSpec
namespace Go.Proofs.YtneapbggnnndhaaGreat
open Go.RowKit Go.BigFrame
set_option linter.unusedVariables false
set_option linter.unusedSimpArgs false

/-- Does a view fit a graph, but for its values? -/
def vFit (n : Int) (es : List Ed) (a : Int) (zs : List Int) : Bool := gVal n es && ((decide (0 ≤ a) && decide (a < n)) && decide ((zs.length : Int) = n))
/-- Are all of them measures? -/
def mAll (m : Int) (zs : List Int) : Bool := mKind m && zs.all (mIn m)
/-- Is a view one of a graph? -/
def vVal (n : Int) (es : List Ed) (m a : Int) (zs : List Int) : Bool := vFit n es a zs && mAll m zs

theorem opsAll (m : Int) (zs : List Int) (s : Value) (w : World) (hr : Row w s zs) (hl : zs.length ≤ 281474976710656) :
    Calls Tryz.prog 48 #[.int .i64 m, s] w fun e w' => e = .returned (.tuple #[opsR m (mAll m zs), .bool (mAll m zs)]) ∧ Below w.heap.size w w' := by
  unfold mAll
  cases hm : mKind m
  · rw [Bool.false_and]
    exact opsFor_no m hm s w
  · rw [Bool.true_and]
    exact opsFor_any hm zs s w hr hl

end Go.Proofs.YtneapbggnnndhaaGreat
namespace Go.Proofs.YtneapbggnnndhaaGreat
open Go.RowKit Go.BigFrame
set_option linter.unusedVariables false
set_option linter.unusedSimpArgs false

theorem calls_below {f : FuncId} {args : Array Value} {w : World} {v : Value} (h : Calls Tryz.prog f args w fun e w' => e = .returned v ∧ w = w') : Calls Tryz.prog f args w fun e w' => e = .returned v ∧ Below w.heap.size w w' :=
  h.mono fun e w' ⟨he, hw⟩ => ⟨he, hw ▸ Below.refl _ _⟩

end Go.Proofs.YtneapbggnnndhaaGreat
