/- When two views are the same: in the model. -/
import Derived.Test.YtnomlefjldfgiaaVEdges
namespace Go.Proofs.Ytnomlefjldfgiaa
open Go.RowKit Go.BigFrame
set_option linter.unusedVariables false
set_option linter.unusedSimpArgs false

end Go.Proofs.Ytnomlefjldfgiaa
