/- RelaxAll: in the model. -/
import Derived.Test.YtjcfefpcilhelaaRelaxJ
import Derived.Test.YtjcfefpcilhelaaRelaxS
namespace Go.Proofs.Ytjcfefpcilhelaa
open Go.RowKit Go.BigFrame Go.Deep
set_option linter.unusedVariables false
set_option linter.unusedSimpArgs false

end Go.Proofs.Ytjcfefpcilhelaa
