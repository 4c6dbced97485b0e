/- ReachedNodes, in the model. -/
import Derived.Test.YtjcfefpcilhelaaReached
import Derived.Test.YtjcfefpcilhelaaBoxes
namespace Go.Proofs.Ytjcfefpcilhelaa
open Go.RowKit Go.BigFrame Go.Deep
set_option linter.unusedVariables false
set_option linter.unusedSimpArgs false

end Go.Proofs.Ytjcfefpcilhelaa
