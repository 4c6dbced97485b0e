/- ReachedNodes, in the model. -/
import Derived.Test.YtgfipdompmkjiaaReached
import Derived.Test.YtgfipdompmkjiaaBoxes
namespace Go.Proofs.Ytgfipdompmkjiaa
open Go.RowKit Go.BigFrame Go.Deep
set_option linter.unusedVariables false
set_option linter.unusedSimpArgs false

end Go.Proofs.Ytgfipdompmkjiaa
