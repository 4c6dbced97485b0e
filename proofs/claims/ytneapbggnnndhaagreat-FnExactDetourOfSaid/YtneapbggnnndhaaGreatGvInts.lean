/- Lists of integers that the laws compare and search. -/
import Derived.Test.YtneapbggnnndhaaGreatVEdges
namespace Go.Proofs.YtneapbggnnndhaaGreat
open Go.RowKit Go.BigFrame Go.Deep
set_option linter.unusedVariables false
set_option linter.unusedSimpArgs false

/-- Is a number in a list? -/
def inL (zs : List Int) (x : Int) : Bool := decide (x ∈ zs)
end Go.Proofs.YtneapbggnnndhaaGreat
