/- The laws' marks: rows that are written over and read again. -/
import Derived.Test.YtneapbggnnndhaaGreatVEdges
namespace Go.Proofs.YtneapbggnnndhaaGreat
open Go.RowKit Go.BigFrame Go.Deep
set_option linter.unusedVariables false
set_option linter.unusedSimpArgs false

end Go.Proofs.YtneapbggnnndhaaGreat
