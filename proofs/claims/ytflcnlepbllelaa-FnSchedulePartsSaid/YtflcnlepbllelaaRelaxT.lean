/- RelaxAll: in the model. -/
import Derived.Test.YtflcnlepbllelaaRelaxJ
import Derived.Test.YtflcnlepbllelaaRelaxS
namespace Go.Proofs.Ytflcnlepbllelaa
open Go.RowKit Go.BigFrame Go.Deep
set_option linter.unusedVariables false
set_option linter.unusedSimpArgs false

end Go.Proofs.Ytflcnlepbllelaa
