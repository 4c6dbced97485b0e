/- What the model's exported functions of measures answer. -/
import Derived.Test.YtneapbggnnndhaaGreatSpec
namespace Go.Proofs.YtneapbggnnndhaaGreat
open Go.RowKit Go.BigFrame
set_option linter.unusedVariables false
set_option linter.unusedSimpArgs false

end Go.Proofs.YtneapbggnnndhaaGreat
